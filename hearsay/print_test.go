package hearsay

import (
	"strings"
	"testing"

	"hearsay/api"
)

func checkPrint(t *testing.T, text, want string) {
	t.Helper()
	test, errno, at := Load(text)
	if errno != api.OK {
		t.Errorf("P3: Load(%q) = %d, %d", text, errno, at)
		return
	}
	got := test.Print()
	if got != want {
		t.Errorf("P4: Print of %q = %q, want %q", text, got, want)
	}
	checkPrintAgain(t, got)
}

func checkPrintAgain(t *testing.T, text string) {
	t.Helper()
	test, errno, at := Load(text)
	if len(text) > api.MaxTest {
		if errno != api.ErrLong {
			t.Errorf("P3: Load of %d bytes = %d, %d", len(text), errno, at)
		}
		return
	}
	if errno != api.OK {
		t.Errorf("P4: Load of the printed %q = %d, %d", text, errno, at)
		return
	}
	if again := test.Print(); again != text {
		t.Errorf("P4: %q, printed again, is %q", text, again)
	}
}

func TestPrint(t *testing.T) {
	for _, c := range [][2]string{
		{"thread fence;exists x=0", "thread fence;\nexists x = 0\n"},
		{"\n\nthread\n\nfence\n;\nforall\nx\n=\n0\n\n", "thread fence;\nforall x = 0\n"},
		{"thread w:=0;x:=r0;y:=9;z:=r3;exists w=0", "thread w := 0; x := r0; y := 9; z := r3;\nexists w = 0\n"},
		{"thread r0:=w;r1:=x;r2:=5;r3:=swap z 7;exists z=7", "thread r0 := w; r1 := x; r2 := 5; r3 := swap z 7;\nexists z = 7\n"},
		{"thread if r2=3 skip 1;fence;thread fence;exists 1 : r3=4", "thread if r2 = 3 skip 1; fence;\nthread fence;\nexists 1:r3 = 4\n"},
		{"thread fence;exists((x=0)and(not(y=1))or z=2)", "thread fence;\nexists ((x = 0) and (not (y = 1)) or z = 2)\n"},
		{"thread fence;exists ( ( x = 0 ) )", "thread fence;\nexists ((x = 0))\n"},
		{"thread fence;forall not not(0:r0=0)and(x=1)or(y=2)", "thread fence;\nforall not not (0:r0 = 0) and (x = 1) or (y = 2)\n"},
	} {
		checkPrint(t, c[0], c[1])
	}
}

func TestPrintRightTests(t *testing.T) {
	for _, text := range rightTests() {
		checkPrint(t, text, printed(text))
	}
}

func TestPrintLongerThanATest(t *testing.T) {
	text := "thread fence;exists x=0" + strings.Repeat(" or x=0", 53)
	if len(text) > api.MaxTest {
		t.Fatalf("the text has %d bytes", len(text))
	}
	want := "thread fence;\nexists x = 0" + strings.Repeat(" or x = 0", 53) + "\n"
	if len(want) <= api.MaxTest {
		t.Fatalf("the printed text has only %d bytes", len(want))
	}
	checkPrint(t, text, want)
}
