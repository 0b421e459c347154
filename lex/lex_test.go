package lex_test

import (
	"fmt"
	"math"
	"slices"
	"strconv"
	"strings"
	"testing"

	"asterism/api"
	"asterism/lex"
	"asterism/val"
)

func token(kind int, text string, at int) api.Token {
	return api.Token{Kind: kind, Text: text, At: at}
}

// told writes tokens, of long lists the beginning.
func told(l []api.Token) string { return fmt.Sprintf("%.300s", fmt.Sprint(l)) }

// scans asks for the tokens of s and that no fault is told.
func scans(t *testing.T, s string, want ...api.Token) {
	t.Helper()
	got, at := lex.Scan(s)
	if at != -1 || !slices.Equal(got, want) {
		t.Errorf("P17.1: Scan(%.60q) is %s, %d, not %s", s, told(got), at, told(want))
	}
}

// one asks that s, wherever it stands alone, is one word of the kind.
func one(t *testing.T, kind int, s string) {
	t.Helper()
	n := len(s)
	scans(t, s, token(kind, s, 0), token(api.TEnd, "", n))
	scans(t, " \t\n"+s+"\n", token(kind, s, 3), token(api.TEnd, "", n+4))
	scans(t, s+" "+s, token(kind, s, 0), token(kind, s, n+1), token(api.TEnd, "", 2*n+1))
	scans(t, "("+s+")", token(api.TSign, "(", 0), token(kind, s, 1),
		token(api.TSign, ")", n+1), token(api.TEnd, "", n+2))
}

// faulty asks that s has its first fault at the byte.
func faulty(t *testing.T, s string, want int) {
	t.Helper()
	got, at := lex.Scan(s)
	if at != want || len(got) != 0 {
		t.Errorf("P17.1: Scan(%.60q) is %s, %d, not nil, %d", s, told(got), at, want)
	}
}

// none asks that s is at fault from its beginning, wherever it stands, and
// that what is at fault behind it, or a word that isn't, changes nothing.
func none(t *testing.T, s string) {
	t.Helper()
	faulty(t, s, 0)
	faulty(t, s+" ", 0)
	faulty(t, s+" a", 0)
	faulty(t, s+" ;", 0)
	faulty(t, " \t\n"+s, 3)
	faulty(t, "a 5 'b' <= "+s, 11)
	faulty(t, "; "+s, 0)
}

func TestTheEndAlone(t *testing.T) {
	for n := range 5 {
		for _, blank := range []string{" ", "\t", "\n"} {
			scans(t, strings.Repeat(blank, n), token(api.TEnd, "", n))
		}
	}
	scans(t, " \t\n\n \t", token(api.TEnd, "", 6))
}

func TestWordsOfEachKind(t *testing.T) {
	scans(t, "from sale where at.n>=-5 and what != 'a b'",
		token(api.TName, "from", 0), token(api.TName, "sale", 5), token(api.TName, "where", 10),
		token(api.TName, "at", 16), token(api.TSign, ".", 18), token(api.TName, "n", 19),
		token(api.TSign, ">=", 20), token(api.TInt, "-5", 22), token(api.TName, "and", 25),
		token(api.TName, "what", 29), token(api.TSign, "!=", 34), token(api.TText, "'a b'", 37),
		token(api.TEnd, "", 42))
	scans(t, "'a'b 'c''d'5'e'-6.f",
		token(api.TText, "'a'", 0), token(api.TName, "b", 3), token(api.TText, "'c'", 5),
		token(api.TText, "'d'", 8), token(api.TInt, "5", 11), token(api.TText, "'e'", 12),
		token(api.TInt, "-6", 15), token(api.TSign, ".", 17), token(api.TName, "f", 18),
		token(api.TEnd, "", 19))
	scans(t, "fd a,b->c\n#0=$1\t",
		token(api.TName, "fd", 0), token(api.TName, "a", 3), token(api.TSign, ",", 4),
		token(api.TName, "b", 5), token(api.TSign, "->", 6), token(api.TName, "c", 8),
		token(api.TSign, "#", 10), token(api.TInt, "0", 11), token(api.TSign, "=", 12),
		token(api.TSign, "$", 13), token(api.TInt, "1", 14), token(api.TEnd, "", 16))
}

func TestNames(t *testing.T) {
	for _, s := range []string{"a", "z", "_", "__", "a0", "z9", "_0", "a_9z", "sale", "abcdefghijkl", "_12345678901"} {
		one(t, api.TName, s)
	}
	for n := 1; n <= api.MaxName; n++ {
		one(t, api.TName, strings.Repeat("m", n))
		one(t, api.TName, "_"+strings.Repeat("7", n-1))
	}
	for _, n := range []int{13, 14, 24, 255, 1 << 20} {
		none(t, strings.Repeat("m", n))
		none(t, "_"+strings.Repeat("7", n-1))
	}
}

func TestKeyWordsAreNames(t *testing.T) {
	for _, s := range strings.Fields("table key fd int text must to load insert delete update summary on by keep drop from where and is not null rollup cube show having order desc limit using base count sum min max avg distinct rows") {
		one(t, api.TName, s)
	}
}

func TestNumbers(t *testing.T) {
	for _, s := range []string{
		"0", "1", "9", "10", "90", "100", "1000000000000000000", "9223372036854775806", "9223372036854775807",
		"-1", "-9", "-10", "-1000000000000000000", "-9223372036854775807", "-9223372036854775808",
	} {
		one(t, api.TInt, s)
	}
	for _, s := range []string{
		"-0", "00", "01", "09", "007", "-00", "-01", "-007", "00000000000000000000", "-00000000000000000001",
		"09223372036854775807", "-09223372036854775808",
		"9223372036854775808", "9223372036854775810", "9999999999999999999", "10000000000000000000",
		"18446744073709551615", "18446744073709551616", "18446744073709551617", "92233720368547758070",
		"-9223372036854775809", "-9999999999999999999", "-18446744073709551616", "-18446744073709551617",
		strings.Repeat("1", 1<<20), "-" + strings.Repeat("1", 1<<20), strings.Repeat("0", 1<<20),
		"0x1", "0b1", "0o7", "1_000", "1e5", "-1e5", "5a", "5z", "5_", "-5a", "0a", "0_", "9223372036854775807a",
	} {
		none(t, s)
	}
}

func TestNumbersOfEachLength(t *testing.T) {
	for n := 1; n <= 18; n++ {
		one(t, api.TInt, strings.Repeat("9", n))
		one(t, api.TInt, "-1"+strings.Repeat("0", n-1))
		none(t, "0"+strings.Repeat("3", n))
		none(t, "-0"+strings.Repeat("3", n))
	}
	for n := 20; n <= 45; n++ {
		none(t, strings.Repeat("9", n))
		none(t, "-1"+strings.Repeat("0", n-1))
	}
}

func TestMinus(t *testing.T) {
	for _, s := range []string{"-", "--", "--5", "- 5", "-\n5", "- >", "-a", "-_", "-'a'", "-=", "-<", "-(", "-.5", "-\x00", "-é", "-A", "-/", "-:"} {
		none(t, s)
	}
	scans(t, "5-3", token(api.TInt, "5", 0), token(api.TInt, "-3", 1), token(api.TEnd, "", 3))
	scans(t, "a-3", token(api.TName, "a", 0), token(api.TInt, "-3", 1), token(api.TEnd, "", 3))
	scans(t, "->-3", token(api.TSign, "->", 0), token(api.TInt, "-3", 2), token(api.TEnd, "", 4))
	scans(t, "->3", token(api.TSign, "->", 0), token(api.TInt, "3", 2), token(api.TEnd, "", 3))
	scans(t, "5->a", token(api.TInt, "5", 0), token(api.TSign, "->", 1), token(api.TName, "a", 3), token(api.TEnd, "", 4))
	scans(t, "<-3", token(api.TSign, "<", 0), token(api.TInt, "-3", 1), token(api.TEnd, "", 3))
	scans(t, "->->", token(api.TSign, "->", 0), token(api.TSign, "->", 2), token(api.TEnd, "", 4))
	faulty(t, "5-", 1)
	faulty(t, "a - 5", 2)
	faulty(t, "5-0", 1)
	faulty(t, "5-3a", 1)
	faulty(t, "-->", 0)
	faulty(t, "->-", 2)
}

func TestTexts(t *testing.T) {
	for n := range api.MaxText + 1 {
		one(t, api.TText, "'"+strings.Repeat("x", n)+"'")
		one(t, api.TText, "'"+strings.Repeat(" ", n)+"'")
	}
	for _, s := range []string{"' '", "'~'", "'5'", "'-5a'", "'05'", "'from'", "'->'", "'a;b'", "'A'", `'"'`, `'\'`, "'null'", "'&('"} {
		one(t, api.TText, s)
	}
	for _, n := range []int{13, 14, 255, 1 << 20} {
		none(t, "'"+strings.Repeat("x", n)+"'")
		faulty(t, "a '"+strings.Repeat("x", n), 2)
	}
	for _, s := range []string{"'\n'", "'\t'", "'a\nb'", "'\x00'", "'\x1f'", "'\x7f'", "'é'", "'\xff'", "'abcdefghijkl\n'"} {
		none(t, s)
	}
	for _, s := range []string{"'", "''' ", "'''", "'a", "'abcdefghijkl", "'a''b"} {
		faulty(t, s, strings.LastIndex(s, "'"))
		faulty(t, " "+s, strings.LastIndex(s, "'")+1)
	}
}

// Each byte at each place of texts of each length, with an end and without. A '
// ends the text ahead of the last one, which has no other.
func TestTextsOfEachByte(t *testing.T) {
	for b := range 256 {
		for n := 1; n <= api.MaxText; n++ {
			for place := range n {
				inner := []byte(strings.Repeat("x", n))
				inner[place] = byte(b)
				s := "'" + string(inner)
				switch {
				case b == '\'':
					faulty(t, s+"'", n+1)
				case b < 32 || b > 126:
					faulty(t, s+"'", 0)
					faulty(t, s, 0)
				default:
					scans(t, s+"'", token(api.TText, s+"'", 0), token(api.TEnd, "", n+2))
					faulty(t, s, 0)
				}
			}
		}
	}
}

func signs() []string {
	return []string{"(", ")", ",", ".", "=", "!=", "<", "<=", ">", ">=", "->", "#", "$"}
}

func TestSigns(t *testing.T) {
	for _, s := range signs() {
		one(t, api.TSign, s)
		n := len(s)
		scans(t, "a"+s+"b", token(api.TName, "a", 0), token(api.TSign, s, 1), token(api.TName, "b", n+1), token(api.TEnd, "", n+2))
		scans(t, "1"+s+"2", token(api.TInt, "1", 0), token(api.TSign, s, 1), token(api.TInt, "2", n+1), token(api.TEnd, "", n+2))
		scans(t, "''"+s+"''", token(api.TText, "''", 0), token(api.TSign, s, 2), token(api.TText, "''", n+2), token(api.TEnd, "", n+4))
	}
}

// Two signs with nothing between are two, but where the longer one counts.
func TestTwoSigns(t *testing.T) {
	for _, a := range signs() {
		for _, b := range signs() {
			n := len(a)
			scans(t, a+" "+b, token(api.TSign, a, 0), token(api.TSign, b, n+1), token(api.TEnd, "", n+1+len(b)))
			if (a == "<" || a == ">") && b == "=" {
				scans(t, a+b, token(api.TSign, a+b, 0), token(api.TEnd, "", 2))
				continue
			}
			scans(t, a+b, token(api.TSign, a, 0), token(api.TSign, b, n), token(api.TEnd, "", n+len(b)))
		}
	}
}

func TestSignsThatAreNone(t *testing.T) {
	for _, s := range []string{"!", "! =", "!a", "!!=", "!<", "!>", "!5", "!'a'", ";", ":", "*", "+", "/", "\\", "\"", "`", "[", "]", "{", "}", "|", "&", "^", "%", "@", "?", "~"} {
		none(t, s)
	}
	faulty(t, "<>!", 2)
	faulty(t, "=!", 1)
	faulty(t, "<=+", 2)
}

// alone tells the kind of the word that the byte is alone; 0: none; -1: it
// stands between words.
func alone(b byte) int {
	switch {
	case strings.IndexByte(" \t\n", b) >= 0:
		return -1
	case strings.IndexByte("abcdefghijklmnopqrstuvwxyz_", b) >= 0:
		return api.TName
	case strings.IndexByte("0123456789", b) >= 0:
		return api.TInt
	case strings.IndexByte("(),.=<>#$", b) >= 0:
		return api.TSign
	}
	return 0
}

func TestEachByteAlone(t *testing.T) {
	for b := range 256 {
		s := string([]byte{byte(b)})
		switch kind := alone(byte(b)); kind {
		case -1:
			scans(t, s, token(api.TEnd, "", 1))
		case 0:
			none(t, s)
		default:
			one(t, kind, s)
		}
	}
}

func TestEachByteBehindAName(t *testing.T) {
	for b := range 256 {
		s := "ab" + string([]byte{byte(b)})
		switch kind := alone(byte(b)); kind {
		case -1:
			scans(t, s, token(api.TName, "ab", 0), token(api.TEnd, "", 3))
		case 0:
			faulty(t, s, 2)
		case api.TName, api.TInt:
			one(t, api.TName, s)
		default:
			scans(t, s, token(api.TName, "ab", 0), token(kind, s[2:], 2), token(api.TEnd, "", 3))
		}
	}
}

func TestEachByteBehindANumber(t *testing.T) {
	for b := range 256 {
		s := "-7" + string([]byte{byte(b)})
		switch kind := alone(byte(b)); kind {
		case -1:
			scans(t, s, token(api.TInt, "-7", 0), token(api.TEnd, "", 3))
		case 0:
			faulty(t, s, 2)
		case api.TName:
			none(t, s)
		case api.TInt:
			one(t, api.TInt, s)
		default:
			scans(t, s, token(api.TInt, "-7", 0), token(kind, s[2:], 2), token(api.TEnd, "", 3))
		}
	}
}

func TestEachByteBehindATextAndASign(t *testing.T) {
	for b := range 256 {
		behind := string([]byte{byte(b)})
		for _, x := range []api.Token{token(api.TText, "'x'", 0), token(api.TSign, "->", 0)} {
			s, n := x.Text+behind, len(x.Text)
			switch kind := alone(byte(b)); kind {
			case -1:
				scans(t, s, x, token(api.TEnd, "", n+1))
			case 0:
				faulty(t, s, n)
			default:
				scans(t, s, x, token(kind, behind, n), token(api.TEnd, "", n+1))
			}
		}
	}
}

// What val writes is one word, and what val takes for a name is a name.
func TestWordsOfVal(t *testing.T) {
	for _, n := range []int64{0, 1, -1, 7, -10, math.MaxInt64, math.MinInt64, math.MaxInt32, math.MinInt32} {
		one(t, api.TInt, val.Text(api.Value{Kind: api.VInt, N: n}))
	}
	for _, s := range []string{"", "a", " ", "north", "a-b (c)", "abcdefghijkl"} {
		one(t, api.TText, val.Text(api.Value{Kind: api.VText, S: s}))
	}
	one(t, api.TName, val.Text(api.Value{}))
	for _, s := range []string{"a", "_", "sales", "a_9", "abcdefghijkl"} {
		if !val.Name(s) {
			t.Errorf("P1.1: Name(%q) is false", s)
		}
		one(t, api.TName, s)
	}
}

// Runes that unicode takes for letters, digits or blanks are none here.
func TestOtherRunes(t *testing.T) {
	for _, s := range []string{"é", "ſ", "ａ", "٣", "\u00a0", "\u2003", "\u0085", "\ufeff", "\ufffd", "\v", "\f", "\r", "A", "Z", "\xc3", "\x80"} {
		none(t, s)
		faulty(t, "a"+s, 1)
		faulty(t, "5"+s, 1)
	}
	faulty(t, "a\r\nb", 1)
}

func TestTheFirstFaultIsTold(t *testing.T) {
	faulty(t, "a ; 05", 2)
	faulty(t, "a 05 ;", 2)
	faulty(t, "'a 05 ;", 0)
	faulty(t, "abcdefghijklm 'x", 0)
	faulty(t, "5a;", 0)
	faulty(t, "12345678901234567890;", 0)
	faulty(t, "- 'abcdefghijklm'", 0)
	faulty(t, "'abcdefghijklm' -", 0)
	faulty(t, "'a;b' 'abc", 6)
}

func TestManyWords(t *testing.T) {
	const n = 200000
	got, at := lex.Scan(strings.Repeat("a<5'b' ", n))
	if at != -1 || len(got) != 4*n+1 {
		t.Fatalf("P17.1: %d tokens, %d", len(got), at)
	}
	for i := range n {
		want := []api.Token{token(api.TName, "a", 7*i), token(api.TSign, "<", 7*i+1), token(api.TInt, "5", 7*i+2), token(api.TText, "'b'", 7*i+3)}
		if !slices.Equal(got[4*i:4*i+4], want) {
			t.Fatalf("P17.1: %v, not %v", got[4*i:4*i+4], want)
		}
	}
	if got[4*n] != token(api.TEnd, "", 7*n) {
		t.Errorf("P17.1: the end is %v", got[4*n])
	}
	faulty(t, strings.Repeat("a<5'b' ", n)+";", 7*n)
	scans(t, strings.Repeat("\n", 1<<20), token(api.TEnd, "", 1<<20))
}

// Whoever writes into an answer, its spare room too, changes no other one.
func TestAnswersAreNewMemory(t *testing.T) {
	for n := range 9 {
		s := strings.Repeat("a ", n)
		first, _ := lex.Scan(s)
		second, _ := lex.Scan(s)
		want := slices.Clone(second)
		spare := first[:cap(first)]
		for i := range spare {
			spare[i] = token(-1, strconv.Itoa(i), i)
		}
		third, _ := lex.Scan(s)
		if !slices.Equal(second, want) || !slices.Equal(third, want) {
			t.Errorf("P0.3: Scan(%q): %v, %v, not %v", s, second, third, want)
		}
	}
}
