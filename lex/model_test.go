package lex_test

import (
	"math/big"
	"regexp"
	"slices"
	"strings"
	"testing"

	"asterism/api"
	"asterism/lex"
)

// The shapes of words, each longest one at the beginning of what is left. What
// is of a shape may be at fault still.
var (
	blank   = regexp.MustCompile(`^[ \t\n]+`)
	named   = regexp.MustCompile(`^[a-z_][a-z_0-9]*`)
	counted = regexp.MustCompile(`^-?[0-9]+[a-z_]?`)
	quoted  = regexp.MustCompile(`^'[ -&(-~]{0,12}'`)
	signed  = regexp.MustCompile(`^(?:!=|<=|>=|->|[(),.=<>#$])`)
	proper  = regexp.MustCompile(`^(?:0|-?[1-9][0-9]*)$`)
)

// model is Scan's sentence, each word by its shape.
func model(s string) ([]api.Token, int) {
	var tokens []api.Token
	at := 0
	for at < len(s) {
		left := s[at:]
		kind, word := 0, ""
		if b := blank.FindString(left); b != "" {
			at += len(b)
			continue
		} else if w := named.FindString(left); w != "" && len(w) <= 12 {
			kind, word = api.TName, w
		} else if w := counted.FindString(left); proper.MatchString(w) && fits(w) {
			kind, word = api.TInt, w
		} else if w := quoted.FindString(left); w != "" {
			kind, word = api.TText, w
		} else if w := signed.FindString(left); w != "" {
			kind, word = api.TSign, w
		} else {
			return nil, at
		}
		tokens = append(tokens, token(kind, word, at))
		at += len(word)
	}
	return append(tokens, token(api.TEnd, "", at)), -1
}

func fits(digits string) bool {
	n, ok := new(big.Int).SetString(digits, 10)
	return ok && n.IsInt64()
}

// agrees holds Scan against the model, and what it told against s itself.
func agrees(t *testing.T, s string) {
	t.Helper()
	want, fault := model(s)
	got, at := lex.Scan(s)
	if at != fault || !slices.Equal(got, want) {
		t.Fatalf("P17.1: Scan(%.200q) is %s, %d, not %s, %d", s, told(got), at, told(want), fault)
	}
	if at >= 0 {
		if ahead, none := lex.Scan(s[:at]); none != -1 || ahead[len(ahead)-1].At != at {
			t.Fatalf("P17.1: Scan(%.200q) has a fault at %d, ahead of the one at %d", s, none, at)
		}
		return
	}
	at = 0
	for _, x := range got {
		if strings.Trim(s[at:x.At], " \t\n") != "" || s[x.At:x.At+len(x.Text)] != x.Text {
			t.Fatalf("P17.1: Scan(%.200q): %v stands elsewhere", s, x)
		}
		at = x.At + len(x.Text)
	}
	if at != len(s) {
		t.Fatalf("P17.1: Scan(%.200q) ends at %d", s, at)
	}
}

// all hands on every text of n bytes of those of the alphabet.
func all(alphabet string, n int, f func(string)) {
	b := make([]byte, n)
	var fill func(i int)
	fill = func(i int) {
		if i == n {
			f(string(b))
			return
		}
		for k := range len(alphabet) {
			b[i] = alphabet[k]
			fill(i + 1)
		}
	}
	fill(0)
}

func TestAllShortTexts(t *testing.T) {
	for n := range 5 {
		all("a_059-'>=<! .\n(;A\xc3", n, func(s string) { agrees(t, s) })
	}
	for n := range 7 {
		all("a01-'> ", n, func(s string) { agrees(t, s) })
	}
}

func TestAllTextsOfTwoBytes(t *testing.T) {
	var bytes []byte
	for b := range 256 {
		bytes = append(bytes, byte(b))
	}
	all(string(bytes), 1, func(s string) { agrees(t, s) })
	all(string(bytes), 2, func(s string) { agrees(t, s) })
}

func next(x *uint32, below int) int {
	*x = *x*1664525 + 1013904223
	return int(*x>>8) % below
}

// pieces has words, parts of words and what is none, to be laid side by side.
func pieces() []string {
	return []string{
		"a", "from", "abcdefghijk", "abcdefghijkl", "_", "x9", "0", "5", "9", "10", "-", "-5", "-1",
		"922337203685477580", "9223372036854775807", "9223372036854775808", "-9223372036854775808", "-9223372036854775809",
		"'", "''", "'a'", "'abcdefghijkl'", "'abcdefghijklm'", "'a b'", "'->'",
		"(", ")", ",", ".", "=", "!=", "<", "<=", ">", ">=", "->", "#", "$", "!",
		" ", "  ", "\t", "\n", " \n", ";", "A", "\r", "é", "\x00", "\x7f",
	}
}

// whole has words that may stand side by side with a blank between.
func whole() []string {
	return []string{
		"a", "from", "abcdefghijkl", "_9", "0", "-5", "10", "9223372036854775807", "-9223372036854775808",
		"''", "'a b'", "'abcdefghijkl'", "(", ")", ",", ".", "=", "!=", "<", "<=", ">", ">=", "->", "#", "$",
	}
}

func TestMixedTexts(t *testing.T) {
	x := uint32(17)
	for range 60000 {
		s := ""
		for range 1 + next(&x, 12) {
			l := pieces()
			if next(&x, 3) > 0 {
				l = whole()
			}
			s += l[next(&x, len(l))]
			if next(&x, 2) > 0 {
				s += " "
			}
		}
		agrees(t, s)
	}
}

func TestAnyBytes(t *testing.T) {
	x := uint32(7)
	for range 60000 {
		b := make([]byte, next(&x, 24))
		for i := range b {
			b[i] = byte(next(&x, 256))
			if next(&x, 4) > 0 {
				b[i] = byte(32 + next(&x, 95))
			}
		}
		agrees(t, string(b))
	}
}
