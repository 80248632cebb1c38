package hearsay

import (
	"math/rand"
	"strings"
	"testing"

	"hearsay/api"
)

func checkLoad(t *testing.T, text string, want api.Errno, place int) {
	t.Helper()
	test, errno, at := Load(text)
	if errno != want || at != place {
		t.Errorf("P3: Load(%q) = %d, %d, want %d, %d", text, errno, at, want, place)
	}
	if (test != nil) != (want == api.OK) {
		t.Errorf("P1: Load(%q) gave a test: %v, beside the error %d", text, test != nil, errno)
	}
}

// marked parts a text with one '@' at the place that is meant.
func marked(text string) (string, int) {
	return strings.Replace(text, "@", "", 1), strings.Index(text, "@")
}

func checkMarked(t *testing.T, want api.Errno, texts ...string) {
	t.Helper()
	for _, text := range texts {
		text, place := marked(text)
		checkLoad(t, text, want, place)
	}
}

func TestLoadExamples(t *testing.T) {
	checkLoad(t, "", api.ErrSyntax, 0)
	checkLoad(t, "thread if r0 = 0 skip 1; exists x = 0", api.ErrJump, 22)
	checkLoad(t, "thread fence; exists 1:r0 = 0", api.ErrJump, 21)
	checkLoad(t, "thread x = 1;", api.ErrSyntax, 9)
}

func TestLoadRightTests(t *testing.T) {
	for _, text := range rightTests() {
		checkLoad(t, text, api.OK, 0)
	}
}

func TestLoadLength(t *testing.T) {
	const short = "thread fence;exists x = 0"
	fill := strings.Repeat("\n", api.MaxTest-len(short))
	checkLoad(t, fill+short, api.OK, 0)
	checkLoad(t, short+fill, api.OK, 0)
	checkLoad(t, fill+short+" ", api.ErrLong, 0)
	checkLoad(t, strings.Repeat("?", api.MaxTest), api.ErrSyntax, 0)
	checkLoad(t, strings.Repeat("?", api.MaxTest+1), api.ErrLong, 0)
	checkLoad(t, strings.Repeat(" ", api.MaxTest), api.ErrSyntax, api.MaxTest)
	checkLoad(t, strings.Repeat(" ", 1<<20), api.ErrLong, 0)
	checkLoad(t, strings.Repeat("é", api.MaxTest/2+1), api.ErrLong, 0)
}

func TestLoadBounds(t *testing.T) {
	const end = "exists x = 0"
	steps := strings.Repeat("fence; ", api.MaxSteps)
	threads := strings.Repeat("thread fence; ", api.MaxThreads)
	nots := strings.Repeat("not ", api.MaxNest)
	opens := strings.Repeat("(", api.MaxNest)
	closes := strings.Repeat(")", api.MaxNest)
	checkLoad(t, "thread "+steps+end, api.OK, 0)
	checkLoad(t, strings.Repeat("thread "+steps, api.MaxThreads)+end, api.OK, 0)
	checkLoad(t, threads+end, api.OK, 0)
	checkLoad(t, "thread fence; exists "+nots+"x = 0", api.OK, 0)
	checkLoad(t, "thread fence; exists "+opens+"x = 0"+closes, api.OK, 0)
	checkLoad(t, "thread fence; exists "+opens+"x = 0"+closes+" and "+nots+"x = 0 or "+opens+"x = 0"+closes, api.OK, 0)
	checkLoad(t, "thread fence; exists not (not (not (x = 0) and not (x = 0)) or (not (not x = 0)))", api.OK, 0)
	checkMarked(t, api.ErrSyntax,
		"thread "+steps+"@fence; "+end,
		"thread "+steps+"@x := 1; "+end,
		"thread "+steps+"@r0 := 1; "+end,
		"thread "+steps+"@if r0 = 1 skip 0; "+end,
		"thread fence; thread "+steps+"@fence; "+end,
		threads+"@thread fence; "+end,
		"thread fence; exists "+nots+"@not x = 0",
		"thread fence; exists "+nots+"@(x = 0)",
		"thread fence; exists "+opens+"@(x = 0)"+closes,
		"thread fence; exists "+opens+"@not x = 0"+closes,
		"thread fence; exists "+opens+"x = 0 and @not x = 0"+closes,
		"thread fence; exists not (not (not (x = 0 or @(y = 0))))",
	)
}

func TestLoadThingsThatAreNoTokens(t *testing.T) {
	checkMarked(t, api.ErrSyntax,
		"@Thread fence; exists x = 0",
		"@threads fence; exists x = 0",
		"@threadfence; exists x = 0",
		"@\tthread fence; exists x = 0",
		"thread@\rfence; exists x = 0",
		"thread @\xfffence; exists x = 0",
		"thread @é := 1; exists x = 0",
		"thread x@é := 1; exists x = 0",
		"thread x := @01; exists x = 0",
		"thread x := @-1; exists x = 0",
		"thread x := @r4; exists x = 0",
		"thread @v := 1; exists x = 0",
		"thread fence; exists x = 0@\x00",
		"thread fence; exists x = @0and y = 0",
		"thread fence; exists @0r0 = 0",
		"thread fence; exists x = 0 @!",
	)
}

func TestLoadTokensOutOfPlace(t *testing.T) {
	checkMarked(t, api.ErrSyntax,
		"@exists x = 0", "@fence; exists x = 0", "@; thread fence; exists x = 0",
		"thread @exists x = 0", "thread @thread fence; exists x = 0", "thread @; exists x = 0",
		"thread x @= 1; exists x = 0", "thread x @: = 1; exists x = 0", "thread x := @y; exists x = 0",
		"thread x := @swap y 1; exists x = 0", "thread x := 1 @1; exists x = 0", "thread r0 := @r1; exists x = 0",
		"thread r0 @= 1; exists x = 0", "thread r0 := swap @r1 1; exists x = 0", "thread r0 := swap x @y; exists x = 0",
		"thread r0 := swap x @; exists x = 0", "thread @swap x 1; exists x = 0", "thread fence @fence; exists x = 0",
		"thread if @x = 0 skip 0; exists x = 0", "thread if r0 @:= 0 skip 0; exists x = 0", "thread if r0 = @r1 skip 0; exists x = 0",
		"thread if r0 = 0 @; exists x = 0", "thread if r0 = 0 skip @r0; exists x = 0", "thread if r0 = 0 skip @; exists x = 0",
		"thread fence @exists x = 0", "thread fence;@; exists x = 0", "thread fence; exists @exists x = 0",
		"thread fence; exists @r0 = 0", "thread fence; exists 0 @= 0", "thread fence; exists 0@:= 0",
		"thread fence; exists 0:@x = 0", "thread fence; exists x @:= 0", "thread fence; exists x = @x",
		"thread fence; exists x = 0 @y = 0", "thread fence; exists x = 0@;", "thread fence; exists x = 0@)",
		"thread fence; exists (x = 0)@)", "thread fence; exists (@)", "thread fence; exists (x = 0 @(x = 0)",
		"thread fence; exists @and x = 0", "thread fence; exists x = 0 or @and x = 0", "thread fence; exists x = 0 @not x = 0",
		"thread fence; exists x = 0 @thread fence; exists x = 0", "thread fence; exists x = 0 @exists x = 0",
	)
}

func TestLoadTextsThatEndTooSoon(t *testing.T) {
	checkMarked(t, api.ErrSyntax,
		"@", " \n @", "thread@", "thread @", "thread x@", "thread x :=@", "thread x := 1@", "thread fence;@", "thread fence; \n@",
		"thread if@", "thread if r0@", "thread if r0 =@", "thread if r0 = 1@", "thread if r0 = 1 skip@", "thread r0 := swap@", "thread r0 := swap x@",
		"thread fence; exists@", "thread fence; exists 0@", "thread fence; exists 0:@", "thread fence; exists 0:r0@", "thread fence; exists x =@",
		"thread fence; exists x = 0 and@", "thread fence; exists not@", "thread fence; exists (@", "thread fence; exists (x = 0@", "thread fence; exists ((x = 0) @",
	)
}

func TestLoadJumps(t *testing.T) {
	for _, text := range []string{
		"thread if r0 = 0 skip 0; exists x = 0",
		"thread if r0 = 0 skip 1; fence; exists x = 0",
		"thread if r0 = 0 skip 7; fence; fence; fence; fence; fence; fence; fence; exists x = 0",
		"thread if r0 = 9 skip 0; exists x = 9",
		"thread fence; thread fence; exists 0:r0 = 9 or 1:r3 = 9",
	} {
		checkLoad(t, text, api.OK, 0)
	}
	checkMarked(t, api.ErrJump,
		"thread if r0 = 0 skip @2; fence; exists x = 0",
		"thread if r0 = 0 skip @9; fence; exists x = 0",
		"thread if r0 = 0 skip @1; thread fence; exists x = 0",
		"thread if r0 = 0 skip 1; if r0 = 0 skip @1; exists x = 0",
		"thread fence; thread if r0 = 0 skip @1; exists 4:r0 = 0",
		"thread if r0 = 0 skip @3; if r0 = 0 skip 9; thread if r0 = 0 skip 8; exists 9:r0 = 0",
		"thread fence; exists @1:r0 = 0",
		"thread fence; exists (not @9 : r0 = 0)",
		"thread fence; thread fence; exists 1:r0 = 0 and @2:r0 = 0 or 3:r0 = 0",
	)
	checkMarked(t, api.ErrSyntax,
		"thread if r0 = 0 skip 9; exists x = 0 @x",
		"thread if r0 = 0 skip 9; exists 9:r0 = 0 and@",
		"thread fence; exists 9 @r0 = 0",
	)
}

// vocabulary holds every kind of token, and things that are none.
var vocabulary = []string{
	"w", "z", "r0", "r3", "0", "1", "2", "9", "thread", "fence", "swap", "if", "skip", "exists", "forall", "and", "or", "not",
	":=", "=", ":", ";", "(", ")", "10", "r4", "a", "X", "\t", "\xff", "é",
}

func rightTests() []string {
	return []string{
		"thread x := 1; r0 := y; thread y := 1; r0 := x; exists 0:r0 = 0 and 1:r0 = 0",
		"thread x := 1; fence; r0 := y; thread y := 1; fence; r0 := x; forall not ( 0:r0 = 0 and 1:r0 = 0 )",
		"thread r0 := swap x 2; exists x = 2",
		"thread r0 := 5; z := r0; if r0 = 5 skip 1; fence; r1 := swap w 9; exists not not 0:r1 = 0 or ( ( x = 1 ) )",
		"thread fence; thread fence; thread fence; thread fence; exists 3:r3 = 9",
		"thread fence; fence; fence; fence; fence; fence; if r0 = 0 skip 1; if r0 = 0 skip 0; forall ( ( not ( not ( x = 0 ) ) ) and not y = 0 )",
	}
}

func checkAgainstJudge(t *testing.T, text string) {
	t.Helper()
	errno, at := judged(text)
	checkLoad(t, text, errno, at)
	if errno == api.OK {
		checkPrint(t, text, printed(text))
	}
}

func TestLoadEveryChangeOfOneToken(t *testing.T) {
	for _, text := range rightTests() {
		tokens := thingsOf(text)
		for i, x := range tokens {
			ahead, behind := text[:x.at], text[x.at+len(x.text):]
			checkAgainstJudge(t, ahead)
			checkAgainstJudge(t, ahead+behind)
			checkAgainstJudge(t, ahead+x.text+" "+text[tokens[i].at:])
			for _, other := range vocabulary {
				checkAgainstJudge(t, ahead+other+behind)
				checkAgainstJudge(t, ahead+other+" "+x.text+behind)
				checkAgainstJudge(t, ahead+x.text+other+behind)
			}
		}
	}
}

func TestLoadEveryChangeOfOneByte(t *testing.T) {
	for _, text := range rightTests() {
		for i := range len(text) {
			checkAgainstJudge(t, text[:i])
			checkAgainstJudge(t, text[:i]+text[i+1:])
			for _, b := range []byte(" \n\t\x00\x80\xffX;:=()09rxz") {
				checkAgainstJudge(t, text[:i]+string([]byte{b})+text[i+1:])
			}
		}
	}
}

// fitting tells which of the words may stand next.
func (j *judge) fitting() []string {
	var words []string
	for _, word := range vocabulary {
		class := classOf(word)
		if _, ok := table[j.state][class]; ok && !j.tooMuch(class) {
			words = append(words, word)
		}
	}
	return words
}

// grown makes a text of words that may stand where they do; now and then it
// takes any word instead.
func grown(source *rand.Rand) string {
	j := judge{state: "start"}
	text := ""
	for len(text) < 420 {
		if j.state == "after" && j.stack == "" && source.Intn(4) == 0 {
			break
		}
		words := j.fitting()
		word := words[source.Intn(len(words))]
		text += strings.Repeat(" ", source.Intn(2)) + " "
		if source.Intn(100) == 0 {
			text += vocabulary[source.Intn(len(vocabulary))]
			continue
		}
		j.follow(thing{word, classOf(word), len(text)})
		text += word
	}
	return text
}

func TestLoadGrownTexts(t *testing.T) {
	source := rand.New(rand.NewSource(1))
	told := map[api.Errno]int{}
	for range 5000 {
		text := grown(source)
		errno, _ := judged(text)
		told[errno]++
		checkAgainstJudge(t, text)
	}
	for _, errno := range []api.Errno{api.OK, api.ErrLong, api.ErrSyntax, api.ErrJump} {
		if told[errno] < 100 {
			t.Errorf("only %d of the grown texts have the error %d", told[errno], errno)
		}
	}
}
