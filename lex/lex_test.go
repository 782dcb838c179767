package lex

import (
	"math"
	"math/rand"
	"regexp"
	"slices"
	"strconv"
	"strings"
	"testing"
	"unicode/utf8"
	"unsafe"

	"muster/api"
	"muster/runes"
)

// word, num, time, text and sign make tokens.
func word(at int, s string) api.Token { return api.Token{Kind: api.TokWord, Text: s, At: at} }
func num(at, n int) api.Token         { return api.Token{Kind: api.TokNum, Num: n, At: at} }
func time(at int, s string) api.Token { return api.Token{Kind: api.TokTime, Text: s, At: at} }
func text(at int, s string) api.Token { return api.Token{Kind: api.TokText, Text: s, At: at} }
func sign(at int, s string) api.Token { return api.Token{Kind: api.TokSign, Text: s, At: at} }

// list makes a list of tokens.
func list(l ...api.Token) []api.Token { return l }

// lineOf makes a line of so many bytes.
func lineOf(n int, of string) string {
	return strings.Repeat(of, n/len(of)) + strings.Repeat("a", n%len(of))
}

// TestTokens: P5.1, of lines that are told by hand.
func TestTokens(t *testing.T) {
	for _, x := range []struct {
		line  string
		want  []api.Token
		count int
	}{
		// Blanks.
		{"", nil, 0},
		{" ", nil, 1},
		{"\t", nil, 1},
		{" \t \t", nil, 4},
		{" a", list(word(1, "a")), 2},
		{"a ", list(word(0, "a")), 2},
		{"\ta\tb\t", list(word(1, "a"), word(3, "b")), 5},
		{"a \t b", list(word(0, "a"), word(4, "b")), 5},
		// The chapter's example.
		{"submit a2 nodes=4", list(word(0, "submit"), word(7, "a2"), word(10, "nodes"), sign(15, "="), num(16, 4)), 17},
		// Words.
		{"a", list(word(0, "a")), 1},
		{"Z", list(word(0, "z")), 1},
		{"AzZa", list(word(0, "azza")), 4},
		{"Submit CANCEL", list(word(0, "submit"), word(7, "cancel")), 13},
		{"a1", list(word(0, "a1")), 2},
		{"a007", list(word(0, "a007")), 4},
		{"a1234567890", list(word(0, "a1234567890")), 11},
		{"a-b", list(word(0, "a-b")), 3},
		{"a_b", list(word(0, "a_b")), 3},
		{"a-", list(word(0, "a-")), 2},
		{"a_", list(word(0, "a_")), 2},
		{"a--", list(word(0, "a--")), 3},
		{"a-_-1", list(word(0, "a-_-1")), 5},
		{"a-1-b2_C", list(word(0, "a-1-b2_c")), 8},
		{"é", list(word(0, "é")), 1},
		{"É", list(word(0, "É")), 1},
		{"aÉB", list(word(0, "aÉb")), 3},
		{"é1 中-中 𝄞_", list(word(0, "é1"), word(3, "中-中"), word(7, "𝄞_")), 9},
		{"\u00a1\ud7ff\ue000\ufffc\ufffe\U0010ffff", list(word(0, "\u00a1\ud7ff\ue000\ufffc\ufffe\U0010ffff")), 6},
		{"¹½", list(word(0, "¹½")), 2},
		{"a=b", list(word(0, "a"), sign(1, "="), word(2, "b")), 3},
		{"a,b:c", list(word(0, "a"), sign(1, ","), word(2, "b"), sign(3, ":"), word(4, "c")), 5},
		{`a"b"c`, list(word(0, "a"), text(1, "b"), word(4, "c")), 5},
		// Numbers.
		{"0", list(num(0, 0)), 1},
		{"9", list(num(0, 9)), 1},
		{"10", list(num(0, 10)), 2},
		{"100000000", list(num(0, 100000000)), 9},
		{"123456789", list(num(0, 123456789)), 9},
		{"999999999", list(num(0, 999999999)), 9},
		{"0 0", list(num(0, 0), num(2, 0)), 3},
		{"1 2", list(num(0, 1), num(2, 2)), 3},
		{"0,0", list(num(0, 0), sign(1, ","), num(2, 0)), 3},
		{`1"a"2`, list(num(0, 1), text(1, "a"), num(4, 2)), 5},
		{"7é", list(num(0, 7), word(1, "é")), 2},
		{"0é", list(num(0, 0), word(1, "é")), 2},
		{"7A", list(num(0, 7), word(1, "a")), 2},
		{"0A1", list(num(0, 0), word(1, "a1")), 3},
		{"999999999Z", list(num(0, 999999999), word(9, "z")), 10},
		// Times.
		{"1h", list(time(0, "1h")), 2},
		{"1h30m", list(time(0, "1h30m")), 5},
		{"0a", list(time(0, "0a")), 2},
		{"1z", list(time(0, "1z")), 2},
		{"007s", list(time(0, "007s")), 4},
		{"00x00", list(time(0, "00x00")), 5},
		{"1234567890d", list(time(0, "1234567890d")), 11},
		{"0x0123456789", list(time(0, "0x0123456789")), 12},
		{"1hour", list(time(0, "1hour")), 5},
		{"1h2", list(time(0, "1h2")), 3},
		{"1h 2m", list(time(0, "1h"), time(3, "2m")), 5},
		{"1hM", list(time(0, "1h"), word(2, "m")), 3},
		{"1hM30m", list(time(0, "1h"), word(2, "m30m")), 6},
		{"1hé", list(time(0, "1h"), word(2, "é")), 3},
		{"1h-2", list(time(0, "1h"), sign(2, "-"), num(3, 2)), 4},
		{`1h"a"`, list(time(0, "1h"), text(2, "a")), 5},
		{"time=1h30m", list(word(0, "time"), sign(4, "="), time(5, "1h30m")), 10},
		// Signs.
		{"=", list(sign(0, "=")), 1},
		{":", list(sign(0, ":")), 1},
		{",", list(sign(0, ",")), 1},
		{"-", list(sign(0, "-")), 1},
		{"=:,-", list(sign(0, "="), sign(1, ":"), sign(2, ","), sign(3, "-")), 4},
		{"--", list(sign(0, "-"), sign(1, "-")), 2},
		{"-a", list(sign(0, "-"), word(1, "a")), 2},
		{"-a-", list(sign(0, "-"), word(1, "a-")), 3},
		{"a -", list(word(0, "a"), sign(2, "-")), 3},
		{"1-2", list(num(0, 1), sign(1, "-"), num(2, 2)), 3},
		{"1-b", list(num(0, 1), sign(1, "-"), word(2, "b")), 3},
		{"a=-1", list(word(0, "a"), sign(1, "="), sign(2, "-"), num(3, 1)), 4},
		{`"a"-`, list(text(0, "a"), sign(3, "-")), 4},
		// Texts.
		{`""`, list(text(0, "")), 2},
		{`"a"`, list(text(0, "a")), 3},
		{`"A B"`, list(text(0, "A B")), 5},
		{"\" \t\"", list(text(0, " \t")), 4},
		{`"007 +(é"`, list(text(0, "007 +(é")), 9},
		{`"\""`, list(text(0, `"`)), 4},
		{`"\\"`, list(text(0, `\`)), 4},
		{`"\"\\"`, list(text(0, `"\`)), 6},
		{`"\\\""`, list(text(0, `\"`)), 6},
		{`"\\\\"`, list(text(0, `\\`)), 6},
		{`"a\\" b`, list(text(0, `a\`), word(6, "b")), 7},
		{`"a\\\\"b`, list(text(0, `a\\`), word(7, "b")), 8},
		{`"a\" b"`, list(text(0, `a" b`)), 7},
		{`"\\n"`, list(text(0, `\n`)), 5},
		{`"\\"n"\\"`, list(text(0, `\`), word(4, "n"), text(5, `\`)), 9},
		{`""""`, list(text(0, ""), text(2, "")), 4},
		{`"a""b"`, list(text(0, "a"), text(3, "b")), 6},
		{`"é中" é`, list(text(0, "é中"), word(5, "é")), 6},
		{`é "中" 1`, list(word(0, "é"), text(2, "中"), num(6, 1)), 7},
		{`𝄞="𝄞"`, list(word(0, "𝄞"), sign(1, "="), text(2, "𝄞")), 5},
	} {
		l, n, e := Tokens(x.line)
		if !slices.Equal(l, x.want) || n != x.count || e != api.OK {
			t.Errorf("Tokens(%q) = %v, %d, %d, want %v, %d", x.line, l, n, int(e), x.want, x.count)
		}
	}
}

// TestTokensErrors: P5.1, what is told of lines that have something else in them, and which error is told first.
func TestTokensErrors(t *testing.T) {
	for _, x := range []struct {
		line string
		at   int
		err  api.Errno
	}{
		// Runes that begin no token.
		{"+", 0, api.ErrToken},
		{"_", 0, api.ErrToken},
		{"_a", 0, api.ErrToken},
		{`\`, 0, api.ErrToken},
		{`\"a"`, 0, api.ErrToken},
		{"'a'", 0, api.ErrToken},
		{"a +", 2, api.ErrToken},
		{"a+", 1, api.ErrToken},
		{"é中+", 2, api.ErrToken},
		{"a.b", 1, api.ErrToken},
		{"a;", 1, api.ErrToken},
		{"1_", 1, api.ErrToken},
		{"1.5", 1, api.ErrToken},
		{"1h_", 2, api.ErrToken},
		{"a = [", 4, api.ErrToken},
		{`"a"_`, 3, api.ErrToken},
		{`"é"/`, 3, api.ErrToken},
		// Digits that are no number.
		{"00", 0, api.ErrToken},
		{"01", 0, api.ErrToken},
		{"007", 0, api.ErrToken},
		{"000000000", 0, api.ErrToken},
		{"0000000000", 0, api.ErrToken},
		{"1234567890", 0, api.ErrToken},
		{"1000000000", 0, api.ErrToken},
		{"99999999999999999999999999", 0, api.ErrToken},
		{"a 01", 2, api.ErrToken},
		{"é,007", 2, api.ErrToken},
		{"-01", 1, api.ErrToken},
		{"007A", 0, api.ErrToken},
		{"01é", 0, api.ErrToken},
		{"1234567890H", 0, api.ErrToken},
		{"01-1h", 0, api.ErrToken},
		// Texts that do not end.
		{`"`, 0, api.ErrToken},
		{`"a`, 0, api.ErrToken},
		{`a "b`, 2, api.ErrToken},
		{`é "中`, 2, api.ErrToken},
		{`"a\"`, 0, api.ErrToken},
		{`"\"`, 0, api.ErrToken},
		{`"\`, 0, api.ErrToken},
		{`"\\`, 0, api.ErrToken},
		{`"\\\"`, 0, api.ErrToken},
		{`"\\\\\"`, 0, api.ErrToken},
		{`"""`, 2, api.ErrToken},
		{`"a" "b`, 4, api.ErrToken},
		{`a"`, 1, api.ErrToken},
		{`1"`, 1, api.ErrToken},
		// Texts with a \ ahead of another rune.
		{`"\n"`, 0, api.ErrToken},
		{`"\ "`, 0, api.ErrToken},
		{`"\é"`, 0, api.ErrToken},
		{`a "b\c"`, 2, api.ErrToken},
		{`"\\\n"`, 0, api.ErrToken},
		{`"\"\n"`, 0, api.ErrToken},
		{`"\n`, 0, api.ErrToken},
		{`"\n\"`, 0, api.ErrToken},
		{`"\n" +`, 0, api.ErrToken},
		// Bad runes between tokens.
		{"\x00", 0, api.ErrRune},
		{"\n", 0, api.ErrRune},
		{"\x7f", 0, api.ErrRune},
		{"\u00a0", 0, api.ErrRune},
		{"\ufffd", 0, api.ErrRune},
		{"\xff", 0, api.ErrRune},
		{"a\x00", 1, api.ErrRune},
		{"a \x00 b", 2, api.ErrRune},
		{"é\xff", 1, api.ErrRune},
		{"é\xc3", 1, api.ErrRune},
		{"\xc3\xa9\xa9", 1, api.ErrRune},
		{"中\xe4\xb8", 1, api.ErrRune},
		{"1\n", 1, api.ErrRune},
		{"1h\n", 2, api.ErrRune},
		{"=\x00", 1, api.ErrRune},
		{"\"a\"\x00", 3, api.ErrRune},
		{"\"é\"\xff", 3, api.ErrRune},
		// Bad runes in texts.
		{"\"\x00\"", 1, api.ErrRune},
		{"a \"b\xff\"", 4, api.ErrRune},
		{"é \"中\xff\"", 4, api.ErrRune},
		{"\"\n\x00\"", 1, api.ErrRune},
		{"\"\xff\xfe\"", 1, api.ErrRune},
		{"\"a\ufffdb\"", 2, api.ErrRune},
		{"\"a\x00", 2, api.ErrRune},
		{"\"\xff", 1, api.ErrRune},
		{"\"a\\\x00\"", 3, api.ErrRune},
		{"\"\\\xff", 2, api.ErrRune},
		{"\"\\\\\xff\"", 3, api.ErrRune},
		{"\"\\n\x00\"", 3, api.ErrRune},
		{"\"\x00\\n\"", 1, api.ErrRune},
		{"\"\\n\x00", 3, api.ErrRune},
		{"\"a\\\" b\x00", 6, api.ErrRune},
		{"\"a\\\" b\x00\"", 6, api.ErrRune},
		// What comes first is told.
		{"+ \x00", 0, api.ErrToken},
		{"\x00 +", 0, api.ErrRune},
		{"01 \x00", 0, api.ErrToken},
		{"01\x00", 0, api.ErrToken},
		{"1234567890\xff", 0, api.ErrToken},
		{"+ \"\x00\"", 0, api.ErrToken},
		{"\"\\n\" \x00", 0, api.ErrToken},
		{"\"\\n\"\x00", 0, api.ErrToken},
		{"\"\\n\\\\\"\x00", 0, api.ErrToken},
		{"\"\x00\" +", 1, api.ErrRune},
		{"\"a\" \x00 \"b", 4, api.ErrRune},
		{"\"a\" \"b \x00", 7, api.ErrRune},
		{"\"a\\\\\" + \x00", 6, api.ErrToken},
	} {
		l, at, e := Tokens(x.line)
		if len(l) != 0 || at != x.at || e != x.err {
			t.Errorf("Tokens(%q) = %v, %d, %d, want %d, %d", x.line, l, at, int(e), x.at, int(x.err))
		}
	}
}

// TestLongLines: P5.1, a line of as many bytes as may be, and one of one more.
func TestLongLines(t *testing.T) {
	for _, of := range []string{"a", " ", "=", "1h", "a ", "é", "中", "𝄞", "É-", "é ", "a\t中", `"é\\" `} {
		line := lineOf(api.MaxLine, of)
		want, count, _ := lexed(line)
		if l, n, e := Tokens(line); !slices.Equal(l, want) || n != count || e != api.OK {
			t.Errorf("Tokens of 400 bytes of %q: %v, %d, %d", of, l, n, int(e))
		}
		if want, count, e := lexed(line); e != api.OK || count != utf8.RuneCountInString(line) || len(want) == 0 && of != " " {
			t.Errorf("400 bytes of %q ought to be a line", of)
		}
	}
	for _, n := range []int{401, 402, 403, 404, 500, 100000} {
		for _, of := range []string{"a", " ", "=", "é", "中", "𝄞", "1h ", "+", "\x00", "\xff", `"`, "00"} {
			if l, at, e := Tokens(lineOf(n, of)); len(l) != 0 || at != 0 || e != api.ErrBig {
				t.Errorf("Tokens of %d bytes of %q = %v, %d, %d", n, of, l, at, int(e))
			}
		}
	}
	// 200 runes of two bytes each are 400 bytes; so few runes more are too much.
	for _, x := range []struct {
		line  string
		count int
		err   api.Errno
	}{
		{strings.Repeat("é", 200), 200, api.OK},
		{strings.Repeat("é", 200) + "a", 0, api.ErrBig},
		{strings.Repeat("é", 200) + "\x00", 0, api.ErrBig},
		{strings.Repeat("中", 133) + "a", 134, api.OK},
		{strings.Repeat("中", 133) + "é", 0, api.ErrBig},
		{strings.Repeat("𝄞", 100), 100, api.OK},
		{strings.Repeat("𝄞", 100) + " ", 0, api.ErrBig},
		{strings.Repeat("é", 199) + " \x00", 200, api.ErrRune},
		{strings.Repeat("é", 199) + " +", 200, api.ErrToken},
		{strings.Repeat(" ", 399) + "\"", 399, api.ErrToken},
		{strings.Repeat(" ", 390) + "1234567890", 390, api.ErrToken},
		{strings.Repeat("9", 400), 0, api.ErrToken},
		{strings.Repeat("9", 399) + "h", 400, api.OK},
	} {
		if l, n, e := Tokens(x.line); n != x.count || e != x.err || e != api.OK && len(l) != 0 {
			t.Errorf("Tokens(%.20q.., of %d bytes) = %v, %d, %d, want %d, %d", x.line, len(x.line), l, n, int(e), x.count, int(x.err))
		}
	}
}

// letters are all Letters, as a piece of a regular expression; bads all Bad runes of a text.
const (
	letters = `A-Za-z\x{a1}-\x{d7ff}\x{e000}-\x{fffc}\x{fffe}-\x{10ffff}`
	bads    = `\x00-\x08\x0a-\x1f\x7f-\x{a0}\x{fffd}`
)

// What begins a line, by the chapter's words.
var (
	aWord     = regexp.MustCompile(`^[` + letters + `][` + letters + `0-9_-]*`)
	aRun      = regexp.MustCompile(`^[0-9][0-9a-z]*`)
	aNumber   = regexp.MustCompile(`^(0|[1-9][0-9]{0,8})$`)
	aTime     = regexp.MustCompile(`[a-z]`)
	aText     = regexp.MustCompile(`(?s)^"(\\.|[^"\\])*("|\\?$)`)
	aGoodText = regexp.MustCompile(`^"(\\["\\]|[^"\\` + bads + `])*"$`)
	aSign     = regexp.MustCompile(`^[=:,-]`)
	aBlank    = regexp.MustCompile(`^[\t ]+`)
	aBad      = regexp.MustCompile(`[` + bads + `]`)
)

// small is a text with a to z for A to Z.
func small(s string) string {
	return strings.Map(func(r rune) rune {
		if 'A' <= r && r <= 'Z' {
			return r + 'a' - 'A'
		}
		return r
	}, s)
}

// next is what stands first in a line, by the chapter's words: how many bytes it has, and its token, if it is one.
func next(s string) (int, api.Token, bool) {
	if p := aBlank.FindString(s); p != "" {
		return len(p), api.Token{}, true
	}
	if p := aWord.FindString(s); p != "" {
		return len(p), word(0, small(p)), true
	}
	if p := aRun.FindString(s); p != "" {
		if aTime.MatchString(p) {
			return len(p), time(0, p), true
		}
		n, _ := strconv.Atoi(p)
		return len(p), num(0, n), aNumber.MatchString(p)
	}
	if p := aText.FindString(s); p != "" {
		if !aGoodText.MatchString(p) {
			return len(p), api.Token{}, false
		}
		return len(p), text(0, strings.NewReplacer(`\\`, `\`, `\"`, `"`).Replace(p[1:len(p)-1])), true
	}
	if p := aSign.FindString(s); p != "" {
		return len(p), sign(0, p), true
	}
	_, n := utf8.DecodeRuneInString(s)
	return n, api.Token{}, false
}

// lexed is Tokens by the chapter's words.
func lexed(line string) ([]api.Token, int, api.Errno) {
	if len(line) > 400 {
		return nil, 0, api.ErrBig
	}
	var l []api.Token
	at := 0
	// Bytes that are no UTF-8 are fffd from here on.
	for s := string([]rune(line)); s != ""; {
		n, t, ok := next(s)
		if bad := aBad.FindStringIndex(s[:n]); !ok && bad != nil {
			return nil, at + len([]rune(s[:bad[0]])), api.ErrRune
		}
		if !ok {
			return nil, at, api.ErrToken
		}
		if t.Kind != 0 {
			t.At = at
			l = append(l, t)
		}
		at += len([]rune(s[:n]))
		s = s[n:]
	}
	return l, at, api.OK
}

// away is a list of tokens, their places aside.
func away(l []api.Token) []api.Token {
	m := slices.Clone(l)
	for i := range m {
		m[i].At = 0
	}
	return m
}

// ahead is what stands ahead of rune n of a line.
func ahead(line string, n int) string {
	for i := range line {
		if n == 0 {
			return line[:i]
		}
		n--
	}
	return line
}

// holds holds a line against all that the chapter says of it.
func holds(t *testing.T, line string) {
	t.Helper()
	l, n, e := Tokens(line)
	want, wantN, wantErr := lexed(line)
	if !slices.Equal(l, want) || n != wantN || e != wantErr {
		t.Fatalf("Tokens(%q) = %v, %d, %d, want %v, %d, %d", line, l, n, int(e), want, wantN, int(wantErr))
	}
	if e != api.OK {
		if e == api.ErrRune || e == api.ErrToken {
			brokenAt(t, line, n, e)
		}
		return
	}
	for i, x := range l {
		if i > 0 && x.At <= l[i-1].At || x.At < 0 || x.At >= n {
			t.Fatalf("Tokens(%q): token %d stands at %d", line, i, x.At)
		}
		before, m, e := Tokens(ahead(line, x.At))
		if !slices.Equal(before, l[:i]) || m != x.At || e != api.OK {
			t.Fatalf("Tokens ahead of token %d of %q: %v, %d, %d", i, line, before, m, int(e))
		}
		if s, e := Text(x); Check(x) != api.OK || e != api.OK || len(s) > len(line) {
			t.Fatalf("%v of %q is no token: %q, %d", x, line, s, int(e))
		}
	}
	backFrom(t, l, len(line))
}

// brokenAt asks whether a line is one up to where its error is told, and is none from there on.
func brokenAt(t *testing.T, line string, n int, e api.Errno) {
	t.Helper()
	l := []rune(line)
	if n < 0 || n >= len(l) {
		t.Fatalf("Tokens(%q): error %d at %d", line, int(e), n)
	}
	if (e == api.ErrRune) != (runes.Class(l[n]) == runes.Bad) {
		t.Fatalf("Tokens(%q): error %d at %d, which is %x", line, int(e), n, l[n])
	}
	if _, _, ahead := Tokens(ahead(line, n)); e == api.ErrToken && ahead != api.OK {
		t.Fatalf("Tokens(%q): error %d at %d, but %d ahead of it", line, int(e), n, int(ahead))
	}
}

// backFrom asks whether Tokens of Join are the tokens: of those that stand in a line of so many bytes.
func backFrom(t *testing.T, l []api.Token, bytes int) {
	t.Helper()
	s, e := Join(l)
	if e == api.ErrBig && s == "" && bytes+len(l) > api.MaxLine {
		// With a blank between two they may be too many.
		return
	}
	again, _, tokensErr := Tokens(s)
	if e != api.OK || tokensErr != api.OK || !slices.Equal(away(again), away(l)) {
		t.Fatalf("Join of %d tokens = %q, %d, with %d tokens, %d", len(l), s, int(e), len(again), int(tokensErr))
	}
	if twice, e := Join(again); twice != s || e != api.OK {
		t.Fatalf("Join of what Join gave: %q, %d, want %q", twice, int(e), s)
	}
}

// everyShort calls yield with each text of up to n of these pieces.
func everyShort(n int, of []string, yield func(string)) {
	var all func(s string, n int)
	all = func(s string, n int) {
		yield(s)
		if n > 0 {
			for _, p := range of {
				all(s+p, n-1)
			}
		}
	}
	all("", n)
}

// TestAllShort: P5.1, P5.4 and P5.5, of all short lines of some runes.
func TestAllShort(t *testing.T) {
	for _, x := range []struct {
		n  int
		of []string
	}{
		{4, []string{"a", "A", "é", "0", "1", "-", "_", " ", "\t", `"`, `\`, "=", "+", "\x00"}},
		{7, []string{`"`, `\`, "a", "\xff"}},
		{7, []string{`"`, `\`, "é", " "}},
		{6, []string{"0", "1", "h", "H", "-"}},
		{11, []string{"0", "7"}},
		{6, []string{"a", "1", "-", "_", "中"}},
		{5, []string{"\xc3", "\xa9", "\xe4", "\xb8", "\xad", `"`}},
	} {
		everyShort(x.n, x.of, func(line string) { holds(t, line) })
	}
}

// TestEachRune: P5.1, of each rune that UTF-8 has: alone, behind tokens of each kind, in a text and behind a \ in one.
func TestEachRune(t *testing.T) {
	for r := range rune(utf8.MaxRune + 1) {
		if r > 0x300 && r%17 != 0 && (r < 0xd7f0 || r > 0xe010) && (r < 0xfff0 || r > 0x10010) && r < 0x10fff0 {
			continue
		}
		c := string(r)
		for _, line := range []string{c, "é" + c, "1" + c, "1h" + c, "=" + c + "1", `"` + c + `"`, `"\` + c + `"`, `"é` + c, "-" + c + "-" + c} {
			holds(t, line)
		}
	}
}

// words are what lines of any kind are made of: the first ones never break a line.
var words = []string{
	"a", "submit", "Nodes", "é", "中-1", "x_", "a-", " ", " ", "\t", "  ", "=", ":", ",", " -", " 0 ", " 7", " 999999999 ", "1h", "2d3h", "1H", `""`, `"a b"`, `"\""`, `"\\"`, `"é\\\""`,
	"0", "00", "1", "123456789", "-", "_", `"`, `\`, `\"`, `\\`, `"\n"`, "+", "(", "\x00", "\n", "\u00a0", "\xff", "\xc3", "\ufffd", "\"\x00\"",
}

// tame is how many of words never break a line.
const tame = 26

// TestAnyLines: P5.1, P5.4 and P5.5, of lines of any kind, up to some that are too long.
func TestAnyLines(t *testing.T) {
	r := rand.New(rand.NewSource(1))
	for i := range 10000 {
		of, n := words[:tame], r.Intn(20)
		if i%3 == 0 {
			of = words
		}
		if i%10 == 0 {
			n = 60 + r.Intn(120)
		}
		var b strings.Builder
		for range n {
			b.WriteString(of[r.Intn(len(of))])
		}
		holds(t, b.String())
		if b.Len() < 30 {
			for at := range b.Len() {
				holds(t, b.String()[:at])
				holds(t, b.String()[at:])
			}
		}
	}
	for range 5000 {
		b := make([]byte, r.Intn(30))
		r.Read(b)
		holds(t, string(b))
		holds(t, `"`+string(b)+`"`)
	}
}

// TestCheckAndText: P5.2, of tokens that are told by hand, wherever they stand; those without a text may not be.
func TestCheckAndText(t *testing.T) {
	for _, x := range []struct {
		token api.Token
		want  string
		err   api.Errno
	}{
		{word(0, "a"), "a", api.OK},
		{word(0, "submit"), "submit", api.OK},
		{word(0, "a-"), "a-", api.OK},
		{word(0, "a_1-b"), "a_1-b", api.OK},
		{word(0, "é"), "é", api.OK},
		{word(0, "É"), "É", api.OK},
		{word(0, lineOf(400, "a")), lineOf(400, "a"), api.OK},
		{word(0, lineOf(400, "é")), lineOf(400, "é"), api.OK},
		{num(0, 0), "0", api.OK},
		{num(0, 7), "7", api.OK},
		{num(0, 10), "10", api.OK},
		{num(0, 999999999), "999999999", api.OK},
		{time(0, "1h"), "1h", api.OK},
		{time(0, "007h"), "007h", api.OK},
		{time(0, "1h30m"), "1h30m", api.OK},
		{time(0, "1234567890z"), "1234567890z", api.OK},
		{time(0, lineOf(400, "1h")), lineOf(400, "1h"), api.OK},
		{text(0, ""), `""`, api.OK},
		{text(0, "a"), `"a"`, api.OK},
		{text(0, "A b"), `"A b"`, api.OK},
		{text(0, `"`), `"\""`, api.OK},
		{text(0, `\`), `"\\"`, api.OK},
		{text(0, `\n`), `"\\n"`, api.OK},
		{text(0, `"a"`), `"\"a\""`, api.OK},
		{text(0, " 中\t"), "\" 中\t\"", api.OK},
		{text(0, lineOf(398, "a")), `"` + lineOf(398, "a") + `"`, api.OK},
		{text(0, lineOf(398, "é")), `"` + lineOf(398, "é") + `"`, api.OK},
		{text(0, lineOf(199, `"`)), `"` + strings.Repeat(`\"`, 199) + `"`, api.OK},
		{text(0, lineOf(199, `\`)), `"` + strings.Repeat(`\\`, 199) + `"`, api.OK},
		{sign(0, "="), "=", api.OK},
		{sign(0, ":"), ":", api.OK},
		{sign(0, ","), ",", api.OK},
		{sign(0, "-"), "-", api.OK},

		{word(0, ""), "", api.ErrToken},
		{word(0, "A"), "", api.ErrToken},
		{word(0, "aB"), "", api.ErrToken},
		{word(0, "éA"), "", api.ErrToken},
		{word(0, " a"), "", api.ErrToken},
		{word(0, "a "), "", api.ErrToken},
		{word(0, "a\t"), "", api.ErrToken},
		{word(0, "a b"), "", api.ErrToken},
		{word(0, "a=b"), "", api.ErrToken},
		{word(0, "a\"b\""), "", api.ErrToken},
		{word(0, "1"), "", api.ErrToken},
		{word(0, "1a"), "", api.ErrToken},
		{word(0, "-"), "", api.ErrToken},
		{word(0, "-a"), "", api.ErrToken},
		{word(0, "_"), "", api.ErrToken},
		{word(0, "_a"), "", api.ErrToken},
		{word(0, "="), "", api.ErrToken},
		{word(0, "a+"), "", api.ErrToken},
		{word(0, `"a"`), "", api.ErrToken},
		{word(0, "a\x00"), "", api.ErrToken},
		{word(0, "\xff"), "", api.ErrToken},
		{word(0, "é\xc3"), "", api.ErrToken},
		{word(0, lineOf(401, "a")), "", api.ErrToken},
		{word(0, lineOf(402, "é")), "", api.ErrToken},
		{word(0, lineOf(1000000, "a")), "", api.ErrToken},
		{api.Token{Kind: api.TokWord, Text: "a", Num: 1}, "", api.ErrToken},
		{api.Token{Kind: api.TokWord, Text: "a", Num: -1}, "", api.ErrToken},
		{api.Token{Kind: api.TokWord, Num: 1}, "", api.ErrToken},

		{num(0, -1), "", api.ErrToken},
		{num(0, 1000000000), "", api.ErrToken},
		{num(0, math.MaxInt), "", api.ErrToken},
		{num(0, math.MinInt), "", api.ErrToken},
		{api.Token{Kind: api.TokNum, Num: 1, Text: "1"}, "", api.ErrToken},
		{api.Token{Kind: api.TokNum, Text: "1"}, "", api.ErrToken},
		{api.Token{Kind: api.TokNum, Text: "0"}, "", api.ErrToken},
		{api.Token{Kind: api.TokNum, Num: 1, Text: " "}, "", api.ErrToken},
		{api.Token{Kind: api.TokNum, Num: 1, Text: lineOf(100000, "1")}, "", api.ErrToken},

		{time(0, ""), "", api.ErrToken},
		{time(0, "1"), "", api.ErrToken},
		{time(0, "01"), "", api.ErrToken},
		{time(0, "h"), "", api.ErrToken},
		{time(0, "h1"), "", api.ErrToken},
		{time(0, "1H"), "", api.ErrToken},
		{time(0, "1hM"), "", api.ErrToken},
		{time(0, "1é"), "", api.ErrToken},
		{time(0, "1hé"), "", api.ErrToken},
		{time(0, "1h-"), "", api.ErrToken},
		{time(0, "1h 2m"), "", api.ErrToken},
		{time(0, " 1h"), "", api.ErrToken},
		{time(0, "1h "), "", api.ErrToken},
		{time(0, "-1h"), "", api.ErrToken},
		{time(0, "1h\x00"), "", api.ErrToken},
		{time(0, lineOf(402, "1h")), "", api.ErrToken},
		{time(0, lineOf(100000, "1h")), "", api.ErrToken},
		{api.Token{Kind: api.TokTime, Text: "1h", Num: 1}, "", api.ErrToken},
		{api.Token{Kind: api.TokTime, Num: 1}, "", api.ErrToken},

		{text(0, "\x00"), "", api.ErrToken},
		{text(0, "a\n"), "", api.ErrToken},
		{text(0, "\xff"), "", api.ErrToken},
		{text(0, "\ufffd"), "", api.ErrToken},
		{text(0, "\u00a0"), "", api.ErrToken},
		{text(0, lineOf(399, "a")), "", api.ErrToken},
		{text(0, lineOf(400, "é")), "", api.ErrToken},
		{text(0, lineOf(401, "a")), "", api.ErrToken},
		{text(0, lineOf(198, "a")+strings.Repeat(`"`, 101)), "", api.ErrToken},
		{text(0, lineOf(200, `"`)), "", api.ErrToken},
		{text(0, lineOf(200, `\`)), "", api.ErrToken},
		{text(0, lineOf(1000000, "a")), "", api.ErrToken},
		{api.Token{Kind: api.TokText, Text: "a", Num: 1}, "", api.ErrToken},
		{api.Token{Kind: api.TokText, Num: -1}, "", api.ErrToken},

		{sign(0, ""), "", api.ErrToken},
		{sign(0, "+"), "", api.ErrToken},
		{sign(0, "_"), "", api.ErrToken},
		{sign(0, `"`), "", api.ErrToken},
		{sign(0, `\`), "", api.ErrToken},
		{sign(0, "=="), "", api.ErrToken},
		{sign(0, "=:"), "", api.ErrToken},
		{sign(0, "= "), "", api.ErrToken},
		{sign(0, " ="), "", api.ErrToken},
		{sign(0, " "), "", api.ErrToken},
		{sign(0, "a"), "", api.ErrToken},
		{sign(0, "1"), "", api.ErrToken},
		{sign(0, "\x00"), "", api.ErrToken},
		{sign(0, lineOf(401, "=")), "", api.ErrToken},
		{sign(0, lineOf(100000, " ")), "", api.ErrToken},
		{api.Token{Kind: api.TokSign, Text: "=", Num: 1}, "", api.ErrToken},
	} {
		for _, at := range []int{0, 1, 399, 400, -1, math.MaxInt, math.MinInt} {
			x.token.At = at
			if e := Check(x.token); e != x.err {
				t.Errorf("Check(%.40q, %d, %d at %d) = %d, want %d", x.token.Text, x.token.Kind, x.token.Num, at, int(e), int(x.err))
			}
			if s, e := Text(x.token); s != x.want || e != x.err {
				t.Errorf("Text(%.40q, %d, %d at %d) = %.40q, %d, want %.40q, %d", x.token.Text, x.token.Kind, x.token.Num, at, s, int(e), x.want, int(x.err))
			}
		}
	}
}

// TestKindsThatAreNone: P5.2, of tokens of no kind.
func TestKindsThatAreNone(t *testing.T) {
	for _, kind := range []int{0, -1, 6, 7, 256 + api.TokWord, math.MaxInt, math.MinInt} {
		for _, s := range []string{"", "a", "1", "1h", `"a"`, "="} {
			for _, n := range []int{0, 1} {
				x := api.Token{Kind: kind, Text: s, Num: n}
				if got, e := Text(x); Check(x) != api.ErrToken || got != "" || e != api.ErrToken {
					t.Errorf("%v is a token: %q, %d", x, got, int(e))
				}
			}
		}
	}
}

// TestCheckAllShort: P5.2, whether there is a line whose only token it is, of all short ones.
func TestCheckAllShort(t *testing.T) {
	marks := []string{`"`, `\`, "a", " ", "\x00"}
	others := []string{"a", "A", "é", "0", "1", "-", "_", "=", " ", "+"}
	for _, x := range []struct {
		kinds       []int
		of          []string
		long, lines int
	}{
		// A text is twice as long in its line, and its quotes stand there, too.
		{[]int{api.TokText}, marks, 2, 6},
		{[]int{0, api.TokWord, api.TokNum, api.TokTime, api.TokSign, 6}, others, 3, 4},
	} {
		only := map[api.Token]bool{}
		everyShort(x.lines, x.of, func(line string) {
			if l, _, e := lexed(line); e == api.OK && len(l) == 1 {
				only[away(l)[0]] = true
			}
		})
		everyShort(x.long, x.of, func(s string) {
			for _, kind := range x.kinds {
				for n := range 3 {
					x := api.Token{Kind: kind, Text: s, Num: n}
					if (Check(x) == api.OK) != only[x] && (kind != api.TokNum || n < 2) {
						t.Errorf("Check(%v) = %d", x, int(Check(x)))
					}
				}
			}
		})
	}
}

// TestJoin: P5.3, of rows that are told by hand, and which error comes first.
func TestJoin(t *testing.T) {
	none, long := api.Token{}, word(0, lineOf(400, "a"))
	for _, x := range []struct {
		name string
		l    []api.Token
		want string
		err  api.Errno
	}{
		{"nil", nil, "", api.OK},
		{"empty", []api.Token{}, "", api.OK},
		{"one", list(word(0, "a")), "a", api.OK},
		{"one of each kind", list(word(0, "a"), num(0, 0), time(0, "1h"), text(0, ""), sign(0, "-")), `a 0 1h "" -`, api.OK},
		{"places aside", list(word(9, "a"), num(-1, 1), sign(math.MaxInt, "=")), "a 1 =", api.OK},
		{"what would run together", list(word(0, "a-"), sign(0, "-"), word(0, "b"), num(0, 1), num(0, 2), time(0, "3h"), word(0, "h")), "a- - b 1 2 3h h", api.OK},
		{"an empty text", list(text(0, "")), `""`, api.OK},
		{"empty texts", list(text(0, ""), text(0, "")), `"" ""`, api.OK},
		{"marks", list(text(0, `a"b`), text(0, `\`)), `"a\"b" "\\"`, api.OK},
		{"a line", list(word(0, "submit"), word(0, "a"), word(0, "user"), sign(0, "="), word(0, "u")), "submit a user = u", api.OK},
		{"none", list(none), "", api.ErrToken},
		{"none behind", list(word(0, "a"), none), "", api.ErrToken},
		{"none ahead", list(none, word(0, "a")), "", api.ErrToken},
		{"none between", list(word(0, "a"), word(0, "B"), word(0, "c")), "", api.ErrToken},
		{"a Bad rune in a text", list(word(0, "a"), text(0, "\x00")), "", api.ErrToken},
		{"as long as may be", list(long), long.Text, api.OK},
		{"a blank and a sign more", list(long, sign(0, "=")), "", api.ErrBig},
		{"far too long", list(long, long, long), "", api.ErrBig},
		{"too long, and none behind", list(long, long, none), "", api.ErrToken},
		{"too long, and none far behind", list(long, long, long, word(0, "a"), num(0, -1)), "", api.ErrToken},
		{"too long, and none ahead", list(none, long, long), "", api.ErrToken},
		{"none that is too long itself", list(word(0, "a"), word(0, lineOf(401, "a"))), "", api.ErrToken},
		{"too long behind one that is none", list(word(0, "a"), text(0, lineOf(399, "a"))), "", api.ErrToken},
	} {
		if s, e := Join(x.l); s != x.want || e != x.err {
			t.Errorf("%s: Join = %q, %d, want %q, %d", x.name, s, int(e), x.want, int(x.err))
		}
	}
}

// TestJoinAtTheEnd: P5.3 and P5.4, of rows whose texts are together as long as a line may be, and a byte more.
func TestJoinAtTheEnd(t *testing.T) {
	signs := func(n int) []api.Token { return slices.Repeat(list(sign(0, ",")), n) }
	for _, x := range []struct {
		l     []api.Token
		bytes int
	}{
		{signs(200), 399},
		{signs(201), 401},
		{append(signs(199), word(0, "a")), 399},
		{append(signs(199), word(0, "ab")), 400},
		{append(signs(199), word(0, "abc")), 401},
		{append(signs(199), word(0, "é")), 400},
		{append(signs(199), word(0, "éa")), 401},
		{append(signs(199), text(0, "")), 400},
		{append(signs(199), text(0, "a")), 401},
		{append(signs(198), text(0, "a")), 399},
		{append(signs(198), text(0, "é")), 400},
		{append(signs(198), text(0, `"`)), 400},
		{append(signs(198), text(0, `\`)), 400},
		{append(signs(198), text(0, "éa")), 401},
		{append(signs(198), text(0, `a"`)), 401},
		{append(signs(198), text(0, `\"`)), 402},
		{append(signs(198), num(0, 123)), 399},
		{append(signs(198), num(0, 1234)), 400},
		{append(signs(198), num(0, 12345)), 401},
		{append(signs(198), time(0, "1h3m")), 400},
		{append(signs(198), time(0, "1h30m")), 401},
		{list(word(0, lineOf(199, "a")), word(0, lineOf(200, "a"))), 400},
		{list(word(0, lineOf(200, "a")), word(0, lineOf(200, "a"))), 401},
		{list(text(0, lineOf(198, "é")), text(0, lineOf(197, "é"))), 400},
		{list(text(0, lineOf(198, "é")), text(0, lineOf(198, "é"))), 401},
		{list(word(0, lineOf(398, "a")), sign(0, "=")), 400},
		{list(sign(0, "="), word(0, lineOf(399, "a"))), 401},
		{signs(100000), 199999},
	} {
		s, e := Join(x.l)
		if x.bytes > 400 {
			if s != "" || e != api.ErrBig {
				t.Errorf("Join of %d bytes = %q, %d", x.bytes, s, int(e))
			}
			continue
		}
		if len(s) != x.bytes || e != api.OK {
			t.Errorf("Join of %d bytes has %d, %d", x.bytes, len(s), int(e))
		}
		backFrom(t, x.l, len(s))
	}
}

// anyToken makes a token that may be, or one that is near to such.
func anyToken(r *rand.Rand) api.Token {
	texts := []string{"", "a", "submit", "A", "é", "a-1", "-", "=", ":", ",", "+", "1h", "h1", "12", `"`, `\`, "a b", " ", "\xff", "\x00"}
	x := api.Token{Kind: r.Intn(7), Text: texts[r.Intn(len(texts))], At: r.Intn(3) - 1}
	if x.Kind == api.TokNum && r.Intn(10) > 0 {
		x.Text, x.Num = "", r.Intn(2000000000)-1
	}
	return x
}

// TestJoinAny: P5.3 and P5.4, of rows of any tokens.
func TestJoinAny(t *testing.T) {
	r := rand.New(rand.NewSource(3))
	for i := range 20000 {
		var l []api.Token
		var parts []string
		want := api.OK
		for range r.Intn(8) {
			x := anyToken(r)
			if i%2 == 0 && Check(x) != api.OK {
				continue
			}
			s, e := Text(x)
			if want == api.OK {
				want = e
			}
			l, parts = append(l, x), append(parts, s)
		}
		line := ""
		if want == api.OK {
			line = strings.Join(parts, " ")
		}
		if s, e := Join(l); s != line || e != want {
			t.Fatalf("Join(%v) = %q, %d, want %q, %d", l, s, int(e), line, int(want))
		}
		if want == api.OK {
			backFrom(t, l, len(line))
		}
	}
}

// shares tells whether a text shares memory with another.
func shares(s, other string) bool {
	if len(s) == 0 || len(other) == 0 {
		return false
	}
	at := uintptr(unsafe.Pointer(unsafe.StringData(s)))
	from := uintptr(unsafe.Pointer(unsafe.StringData(other)))
	return at < from+uintptr(len(other)) && from < at+uintptr(len(s))
}

// TestNewMemory: what is handed out is new.
func TestNewMemory(t *testing.T) {
	// Made while it runs: a literal of one byte may stand where all such do.
	line := strings.Join([]string{"submit", "Name", "=", "é中", "1h30m", `"a \" b"`, ":"}, " ")
	l, _, _ := Tokens(line)
	if len(l) != 7 {
		t.Fatalf("%d tokens", len(l))
	}
	for _, x := range l {
		if shares(x.Text, line) {
			t.Errorf("%q shares its line's memory", x.Text)
		}
		if s, _ := Text(x); shares(s, x.Text) {
			t.Errorf("Text of %q shares its memory", x.Text)
		}
		if s, _ := Join(list(x)); shares(s, x.Text) {
			t.Errorf("Join of %q shares its memory", x.Text)
		}
	}
	again, _, _ := Tokens(line)
	again[0].Text = "other"
	if l[0].Text != "submit" {
		t.Errorf("two answers share their list")
	}
}

// TestNothingIsChanged: what is handed in stays as it is, its spare room too.
func TestNothingIsChanged(t *testing.T) {
	whole := list(word(3, "a"), num(5, 1), text(-1, "b"), sign(9, "="), word(7, "spare"), word(8, "B"))
	l := slices.Clone(whole)
	for _, n := range []int{0, 1, 4} {
		Join(l[:n])
	}
	Join(l)
	if !slices.Equal(l, whole) {
		t.Errorf("%v became %v", whole, l)
	}
}

// TestNothingIsKept: a call hangs on its arguments alone.
func TestNothingIsKept(t *testing.T) {
	line := `a "b`
	for range 3 {
		for _, x := range []string{line, `a "b" 1`, "\"\\\x00", lineOf(401, "a"), "01", ""} {
			holds(t, x)
		}
		Join(list(word(0, "a"), word(0, "B")))
		Text(text(0, "\x00"))
		if s, e := Join(list(word(0, "a"), num(0, 1))); s != "a 1" || e != api.OK {
			t.Errorf("Join = %q, %d", s, int(e))
		}
	}
}
