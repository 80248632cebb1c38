package reader

import (
	"slices"
	"testing"
)

func allTokens(text string) []token {
	var all []token
	for at := 0; ; {
		next, behind := tokenFrom(text, at)
		all = append(all, next)
		if next.kind == ending {
			return all
		}
		at = behind
	}
}

func TestTokens(t *testing.T) {
	for _, c := range []struct {
		text string
		want []token
	}{
		{"", []token{{ending, 0, 0}}},
		{" \n ", []token{{ending, 0, 3}}},
		{"w x\ny z", []token{{place, 0, 0}, {place, 1, 2}, {place, 2, 4}, {place, 3, 6}, {ending, 0, 7}}},
		{"r0 r3 r4 r", []token{{register, 0, 0}, {register, 3, 3}, {noToken, 0, 6}, {noToken, 0, 9}, {ending, 0, 10}}},
		{"0 9 10", []token{{digit, 0, 0}, {digit, 9, 2}, {noToken, 0, 4}, {ending, 0, 6}}},
		{"v x1 1x r00", []token{{noToken, 0, 0}, {noToken, 0, 2}, {noToken, 0, 5}, {noToken, 0, 8}, {ending, 0, 11}}},
		{"thread fence swap", []token{{wordThread, 0, 0}, {wordFence, 0, 7}, {wordSwap, 0, 13}, {ending, 0, 17}}},
		{"if skip exists", []token{{wordIf, 0, 0}, {wordSkip, 0, 3}, {wordExists, 0, 8}, {ending, 0, 14}}},
		{"forall and or not", []token{{wordForall, 0, 0}, {wordAnd, 0, 7}, {wordOr, 0, 11}, {wordNot, 0, 14}, {ending, 0, 17}}},
		{"threads", []token{{noToken, 0, 0}, {ending, 0, 7}}},
		{":==:;()", []token{{signBecomes, 0, 0}, {signEquals, 0, 2}, {signColon, 0, 3}, {signSemicolon, 0, 4}, {signOpen, 0, 5}, {signClose, 0, 6}, {ending, 0, 7}}},
		{"::=: =", []token{{signColon, 0, 0}, {signBecomes, 0, 1}, {signColon, 0, 3}, {signEquals, 0, 5}, {ending, 0, 6}}},
		{"x\ty", []token{{place, 1, 0}, {noToken, 0, 1}, {place, 2, 2}, {ending, 0, 3}}},
		{"xX\x00", []token{{place, 1, 0}, {noToken, 0, 1}, {noToken, 0, 2}, {ending, 0, 3}}},
	} {
		if got := allTokens(c.text); !slices.Equal(got, c.want) {
			t.Errorf("P3: tokens of %q = %v, want %v", c.text, got, c.want)
		}
	}
}
