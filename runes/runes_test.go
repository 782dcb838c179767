package runes

import (
	"math"
	"math/rand"
	"strings"
	"testing"
	"unicode/utf8"
	"unsafe"

	"muster/api"
)

// stretches are all runes that there may be, by the chapter's words: each from first to last, of one class.
var stretches = []struct {
	first, last rune
	class       int
}{
	{math.MinInt32, -1, Bad},
	{0, 8, Bad},
	{9, 9, Blank},
	{0xa, 0x1f, Bad},
	{0x20, 0x20, Blank},
	{'!', '/', Sign},
	{'0', '9', Digit},
	{':', '@', Sign},
	{'A', 'Z', Letter},
	{'[', '`', Sign},
	{'a', 'z', Letter},
	{'{', '~', Sign},
	{0x7f, 0xa0, Bad},
	{0xa1, 0xd7ff, Letter},
	{0xd800, 0xdfff, Bad},
	{0xe000, 0xfffc, Letter},
	{0xfffd, 0xfffd, Bad},
	{0xfffe, 0x10ffff, Letter},
	{0x110000, math.MaxInt32, Bad},
}

// classOf is the class of a rune by the chapter's words.
func classOf(r rune) int {
	for _, s := range stretches {
		if s.first <= r && r <= s.last {
			return s.class
		}
	}
	return -1
}

// texts are some that may be: without a rune, of runes of all classes, with bytes that are no UTF-8, with fffd itself.
func texts() []string {
	l := []string{
		"", "a", "ab", "submit a user=u", "A\tB c", "é", "éa中", "żółć, 語 and 𝄞", "\u00a1\ud7ff\ue000\ufffc\ufffe\U0010ffff",
		"\x00", "a\x00", "\x00a", "a\x00b\x00", "\n", "a\nb", "\x7f", "a\u0080", "\u00a0", "é\u00a0é",
		"\xff", "\xff\xfe", "a\xff", "\xffa", "é\xff中", "\xff\xff\xff\xff", "\x80", "\xc3", "\xc3a", "é\xc3", "\xe4\xb8", "\xe4\xb8a", "\xf0\x9d\x84", "a\xf0\x9d\x84b",
		"\xc1\x81", "\xe0\x81\x81", "\xed\xa0\x80", "\xf4\x90\x80\x80", "\xf8\x88\x80\x80\x80",
		"\ufffd", "a\ufffd", "\ufffda", "\ufffd\xff\ufffd",
		`"`, `\`, `""`, `\\`, `"\`, `\"`, `a"b`, `a\b`, `a"`, `a\`, `"a`, `\a`, `"a"`, `"a\"b"`, `é"中\`, "\"\xff\"", "\"\x00\"",
	}
	for _, n := range []int{399, 400, 401, 70000} {
		l = append(l, strings.Repeat("a", n), strings.Repeat("é", n), strings.Repeat("\xff", n), strings.Repeat("a", n)+"\x00", strings.Repeat(`"`, n), strings.Repeat(`\`, n))
	}
	return l
}

// pieces are what texts of any kind are made of.
var pieces = []string{"a", "Z", "0", " ", "\t", "=", `"`, `\`, `"`, `\`, "é", "中", "𝄞", "\u00a1", "\U0010ffff", "x", "\x00", "\u00a0", "\xff", "\xc3", "\xe4\xb8", "\x80", "\ufffd"}

// anyText makes a text of up to n pieces, the first kinds of them alone.
func anyText(r *rand.Rand, n, kinds int) string {
	s := ""
	for range r.Intn(n + 1) {
		s += pieces[r.Intn(kinds)]
	}
	return s
}

// good is how many of the pieces, the first ones, have no Bad rune.
const good = 16

// anyTexts are texts, and very many more: each second one without a Bad rune.
func anyTexts() []string {
	l := texts()
	r := rand.New(rand.NewSource(1))
	for range 4000 {
		l = append(l, anyText(r, 12, len(pieces)), anyText(r, 12, good))
	}
	return l
}

// TestClassNumbers: the numbers of the classes.
func TestClassNumbers(t *testing.T) {
	if Bad != 0 || Blank != 1 || Letter != 2 || Digit != 3 || Sign != 4 {
		t.Errorf("%d %d %d %d %d", Bad, Blank, Letter, Digit, Sign)
	}
}

// TestClassAtEnds: P4.1, at both ends of each stretch of each class; there is no rune between them.
func TestClassAtEnds(t *testing.T) {
	next := int64(math.MinInt32)
	for _, s := range stretches {
		if int64(s.first) != next {
			t.Errorf("%x is not behind the stretch ahead", s.first)
		}
		next = int64(s.last) + 1
		middle := rune((int64(s.first) + int64(s.last)) / 2)
		for _, r := range []rune{s.first, middle, s.last} {
			if got := Class(r); got != s.class {
				t.Errorf("Class(%x) = %d, want %d", r, got, s.class)
			}
		}
	}
	if next != math.MaxInt32+1 {
		t.Errorf("the last stretch ends ahead of %x", next)
	}
}

// TestClass: P4.1, of all runes and of numbers that are none, around them and far away.
func TestClass(t *testing.T) {
	check := func(r rune) {
		if got := Class(r); got != classOf(r) {
			t.Errorf("Class(%x) = %d, want %d", r, got, classOf(r))
		}
	}
	for r := rune(-0x1000); r <= 0x120000; r++ {
		check(r)
	}
	some := rand.New(rand.NewSource(2))
	for range 100000 {
		check(rune(some.Uint32()))
	}
	for bits := range 31 {
		for more := rune(-1); more <= 1; more++ {
			check(1<<bits + more)
			check(-1<<bits + more)
		}
	}
}

// TestCheck: P4.1, at texts that are told by hand.
func TestCheck(t *testing.T) {
	for _, x := range []struct {
		s    string
		want int
		err  api.Errno
	}{
		{"", 0, api.OK},
		{"a", 1, api.OK},
		{"a word", 6, api.OK},
		{"\t !/09:@AZ[`az{~", 16, api.OK},
		{"é", 1, api.OK},
		{"é中𝄞", 3, api.OK},
		{"\u00a1\ud7ff\ue000\ufffc\ufffe\U0010ffff", 6, api.OK},
		{"a\x00", 1, api.ErrRune},
		{"\x00", 0, api.ErrRune},
		{"\x00a", 0, api.ErrRune},
		{"\x08", 0, api.ErrRune},
		{"\t\n", 1, api.ErrRune},
		{"ab\x1fcd", 2, api.ErrRune},
		{"~\x7f", 1, api.ErrRune},
		{"é中\u0080", 2, api.ErrRune},
		{"𝄞\u00a0", 1, api.ErrRune},
		{"\ufffd", 0, api.ErrRune},
		{"é\ufffda", 1, api.ErrRune},
		{"\xff", 0, api.ErrRune},
		{"ab\xffc", 2, api.ErrRune},
		{"é\xc3", 1, api.ErrRune},
		{"\xc3a", 0, api.ErrRune},
		{"中\xe4\xb8", 1, api.ErrRune},
		{"a\xe4\xb8b", 1, api.ErrRune},
		{"a\xf0\x9d\x84", 1, api.ErrRune},
		{"A\xc1\x81", 1, api.ErrRune},
		{"a\xed\xa0\x80", 1, api.ErrRune},
		{"a\xed\xbf\xbf", 1, api.ErrRune},
		{"a\xf4\x90\x80\x80", 1, api.ErrRune},
		{"a\x00\xff\n", 1, api.ErrRune},
		{strings.Repeat("中", 70000), 70000, api.OK},
		{strings.Repeat("中", 70000) + "\x00", 70000, api.ErrRune},
		{strings.Repeat("中", 70000) + "\xff中", 70000, api.ErrRune},
	} {
		if got, e := Check(x.s); got != x.want || e != x.err {
			t.Errorf("Check(%.40q) = %d, %d, want %d, %d", x.s, got, int(e), x.want, int(x.err))
		}
	}
}

// checked is Check by the chapter's words.
func checked(s string) (int, api.Errno) {
	l := []rune(s)
	for i, r := range l {
		if classOf(r) == Bad {
			return i, api.ErrRune
		}
	}
	return len(l), api.OK
}

// TestCheckAndCount: P4.1 and P4.2, of texts of any kind.
func TestCheckAndCount(t *testing.T) {
	for _, s := range anyTexts() {
		got, e := Check(s)
		want, wantErr := checked(s)
		if got != want || e != wantErr {
			t.Errorf("Check(%.40q) = %d, %d, want %d, %d", s, got, int(e), want, int(wantErr))
		}
		if n := Count(s); n != len([]rune(s)) {
			t.Errorf("Count(%.40q) = %d, want %d", s, n, len([]rune(s)))
		}
	}
}

// TestEachRuneInText: P4.1 and P4.2, of each rune that UTF-8 has, behind another.
func TestEachRuneInText(t *testing.T) {
	for r := rune(0); r <= utf8.MaxRune; r++ {
		if !utf8.ValidRune(r) {
			continue
		}
		s := "é" + string(r)
		want, wantErr := 2, api.OK
		if classOf(r) == Bad {
			want, wantErr = 1, api.ErrRune
		}
		if got, e := Check(s); got != want || e != wantErr {
			t.Errorf("Check of é and %x = %d, %d, want %d, %d", r, got, int(e), want, int(wantErr))
		}
		if n := Count(s); n != 2 {
			t.Errorf("Count of é and %x = %d", r, n)
		}
	}
}

// TestCount: P4.2, at texts that are told by hand.
func TestCount(t *testing.T) {
	for s, want := range map[string]int{
		"": 0, "a": 1, "é": 1, "中": 1, "𝄞": 1, "éa中𝄞": 4, "\x00": 1, "\x00\n\x7f": 3, "e\u0301": 2,
		"\xff": 1, "\xff\xff": 2, "a\xffb": 3, "\xc3": 1, "\xc3a": 2, "\xe4\xb8": 2, "\xf0\x9d\x84": 3, "\xf0\x9d\x84a": 4, "\xc1\x81": 2, "\xed\xa0\x80": 3, "\xf4\x90\x80\x80": 4,
		"\ufffd": 1, "\ufffd\xff": 2,
	} {
		if got := Count(s); got != want {
			t.Errorf("Count(%q) = %d, want %d", s, got, want)
		}
	}
	if got := Count(strings.Repeat("é\xff", 100000)); got != 200000 {
		t.Errorf("Count of very many: %d", got)
	}
}

// TestCut: P4.2, at texts that are told by hand.
func TestCut(t *testing.T) {
	for _, x := range []struct {
		s     string
		n     int
		a, b  string
		there bool
	}{
		{"abc", 0, "", "abc", true},
		{"abc", 1, "a", "bc", true},
		{"abc", 2, "ab", "c", true},
		{"abc", 3, "abc", "", true},
		{"abc", 4, "", "", false},
		{"abc", -1, "", "", false},
		{"abc", math.MinInt, "", "", false},
		{"abc", -1 << 32, "", "", false},
		{"abc", 1 << 32, "", "", false},
		{"abc", math.MaxInt, "", "", false},
		{"", 0, "", "", true},
		{"", 1, "", "", false},
		{"", -1, "", "", false},
		{"", math.MinInt, "", "", false},
		{"", math.MaxInt, "", "", false},
		{"é中𝄞a", 1, "é", "中𝄞a", true},
		{"é中𝄞a", 2, "é中", "𝄞a", true},
		{"é中𝄞a", 3, "é中𝄞", "a", true},
		{"é中𝄞a", 4, "é中𝄞a", "", true},
		{"é中𝄞a", 5, "", "", false},
		{"é\xff中", 2, "é\xff", "中", true},
		{"\xe4\xb8中", 1, "\xe4", "\xb8中", true},
		{"\xe4\xb8中", 2, "\xe4\xb8", "中", true},
		{"\xe4\xb8中", 3, "\xe4\xb8中", "", true},
		{"\xe4\xb8中", 4, "", "", false},
		{"\xff", 0, "", "\xff", true},
		{"\xff", 1, "\xff", "", true},
		{"\xff", 2, "", "", false},
		{"\ufffda", 1, "\ufffd", "a", true},
		{"\x00\n", 1, "\x00", "\n", true},
	} {
		if a, b, there := Cut(x.s, x.n); a != x.a || b != x.b || there != x.there {
			t.Errorf("Cut(%q, %d) = %q, %q, %t, want %q, %q, %t", x.s, x.n, a, b, there, x.a, x.b, x.there)
		}
	}
}

// places are numbers of runes for a cut: all that there are, if they are few, and such as there are not.
func places(s string) []int {
	n := len([]rune(s))
	l := []int{math.MinInt, math.MinInt + 1, -65536, -2, -1, n - 1, n, n + 1, n + 2, 2*n + 1, len(s) + 1, math.MaxInt - 1, math.MaxInt}
	for i := 0; i < n; i += max(1, n/20) {
		l = append(l, i)
	}
	return l
}

// TestCutAnyText: P4.2 and P4.5, of texts of any kind, behind each of their runes and where there is none.
func TestCutAnyText(t *testing.T) {
	for _, s := range anyTexts() {
		all := []rune(s)
		for _, n := range places(s) {
			a, b, there := Cut(s, n)
			if there != (n >= 0 && n <= len(all)) {
				t.Fatalf("Cut(%.40q, %d): %t", s, n, there)
			}
			if !there {
				if a != "" || b != "" {
					t.Fatalf("Cut(%.40q, %d) = %.40q, %.40q beside false", s, n, a, b)
				}
				continue
			}
			if a+b != s {
				t.Fatalf("Cut(%.40q, %d) = %.40q, %.40q: together another text", s, n, a, b)
			}
			if string([]rune(a)) != string(all[:n]) || string([]rune(b)) != string(all[n:]) {
				t.Fatalf("Cut(%.40q, %d) = %.40q, %.40q: other runes", s, n, a, b)
			}
		}
	}
}

// TestCutAndCount: P4.5, what Count and Check tell of both parts and of the whole.
func TestCutAndCount(t *testing.T) {
	for _, s := range anyTexts() {
		all, e := Check(s)
		if e == api.OK && all != Count(s) {
			t.Fatalf("%.40q: Check tells %d runes, Count %d", s, all, Count(s))
		}
		for _, n := range places(s) {
			a, b, there := Cut(s, n)
			if !there {
				continue
			}
			if Count(a) != n || Count(a)+Count(b) != Count(s) {
				t.Fatalf("Cut(%.40q, %d): %d and %d runes of %d", s, n, Count(a), Count(b), Count(s))
			}
			first, firstErr := Check(a)
			second, secondErr := Check(b)
			if (firstErr == api.OK && secondErr == api.OK) != (e == api.OK) {
				t.Fatalf("Cut(%.40q, %d): errors %d and %d of %d", s, n, int(firstErr), int(secondErr), int(e))
			}
			if firstErr == api.OK && first+second != all {
				t.Fatalf("Cut(%.40q, %d): %d and %d of %d", s, n, first, second, all)
			}
		}
	}
}

// TestLower: P4.2, at texts that are told by hand.
func TestLower(t *testing.T) {
	for s, want := range map[string]string{
		"": "", "A": "a", "Z": "z", "a": "a", "z": "z", "@": "@", "[": "[", "`": "`", "{": "{",
		"ABCDEFGHIJKLMNOPQRSTUVWXYZ": "abcdefghijklmnopqrstuvwxyz",
		"abcdefghijklmnopqrstuvwxyz": "abcdefghijklmnopqrstuvwxyz",
		"Submit A User=U":            "submit a user=u",
		"0AB9 \"X\\Y\"":              "0ab9 \"x\\y\"",
		"AÉZ":                        "aÉz",
		"ÀÞŻΣЖ\u212a\u0130\uff21":    "ÀÞŻΣЖ\u212a\u0130\uff21",
		"A\xffB":                     "a\xffb",
		"\xc3A":                      "\xc3a",
		"\xc1\x81A":                  "\xc1\x81a",
		"A\xe4\xb8Z\xf0\x9d\x84":     "a\xe4\xb8z\xf0\x9d\x84",
		"A\ufffdZ":                   "a\ufffdz",
		"\x00A\nB\x7f":               "\x00a\nb\x7f",
	} {
		if got := Lower(s); got != want {
			t.Errorf("Lower(%q) = %q, want %q", s, got, want)
		}
	}
}

// lowered is Lower by the chapter's words, byte by byte.
func lowered(s string) string {
	const great, small = "ABCDEFGHIJKLMNOPQRSTUVWXYZ", "abcdefghijklmnopqrstuvwxyz"
	b := []byte(s)
	for i := range b {
		if at := strings.IndexByte(great, b[i]); at >= 0 {
			b[i] = small[at]
		}
	}
	return string(b)
}

// TestLowerAnyText: P4.2, of each byte alone and between letters, of each rune, and of texts of any kind.
func TestLowerAnyText(t *testing.T) {
	l := anyTexts()
	for b := range 256 {
		for c := range 256 {
			l = append(l, string([]byte{byte(b), byte(c)}))
		}
		l = append(l, string([]byte{byte(b)}), "A"+string([]byte{byte(b)})+"Z")
	}
	r := rand.New(rand.NewSource(3))
	for range 3000 {
		b := make([]byte, r.Intn(30))
		r.Read(b)
		l = append(l, string(b))
	}
	var all strings.Builder
	for c := range rune(utf8.MaxRune + 1) {
		all.WriteRune(c)
	}
	for _, s := range append(l, all.String()) {
		if got := Lower(s); got != lowered(s) {
			t.Errorf("Lower(%.40q) = %.40q, want %.40q", s, got, lowered(s))
		}
	}
}

// TestQuote: P4.3, at texts that are told by hand.
func TestQuote(t *testing.T) {
	for _, x := range []struct {
		s, want string
		err     api.Errno
	}{
		{``, `""`, api.OK},
		{`a`, `"a"`, api.OK},
		{`a word`, `"a word"`, api.OK},
		{`a"b`, `"a\"b"`, api.OK},
		{`a\b`, `"a\\b"`, api.OK},
		{`"`, `"\""`, api.OK},
		{`\`, `"\\"`, api.OK},
		{`a"`, `"a\""`, api.OK},
		{`a\`, `"a\\"`, api.OK},
		{`"a`, `"\"a"`, api.OK},
		{`\a`, `"\\a"`, api.OK},
		{`""`, `"\"\""`, api.OK},
		{`\\`, `"\\\\"`, api.OK},
		{`\"`, `"\\\""`, api.OK},
		{`"\`, `"\"\\"`, api.OK},
		{`"a"`, `"\"a\""`, api.OK},
		{"\t", "\"\t\"", api.OK},
		{`'/é中𝄞`, `"'/é中𝄞"`, api.OK},
		{"\u00a1\ud7ff\ue000\ufffc\ufffe\U0010ffff", "\"\u00a1\ud7ff\ue000\ufffc\ufffe\U0010ffff\"", api.OK},
		{"\x00", "", api.ErrRune},
		{"a\n", "", api.ErrRune},
		{"\u00a0a", "", api.ErrRune},
		{"a\x7fb", "", api.ErrRune},
		{"\xff", "", api.ErrRune},
		{"a\"\xff", "", api.ErrRune},
		{"a\xc3", "", api.ErrRune},
		{"\ufffd", "", api.ErrRune},
		{"\"\\\ufffd", "", api.ErrRune},
		{strings.Repeat("a", 70000) + "\x00", "", api.ErrRune},
	} {
		if got, e := Quote(x.s); got != x.want || e != x.err {
			t.Errorf("Quote(%.40q) = %.40q, %d, want %.40q, %d", x.s, got, int(e), x.want, int(x.err))
		}
	}
}

// quoted is Quote by the chapter's words.
func quoted(s string) (string, api.Errno) {
	if _, e := checked(s); e != api.OK {
		return "", e
	}
	// Each \ first: those that come ahead of a " are not doubled again.
	return `"` + strings.ReplaceAll(strings.ReplaceAll(s, `\`, `\\`), `"`, `\"`) + `"`, api.OK
}

// TestUnquote: P4.3, at texts that are told by hand, and the order of its errors.
func TestUnquote(t *testing.T) {
	for _, x := range []struct {
		name, s, want string
		err           api.Errno
	}{
		{"no rune", `""`, ``, api.OK},
		{"a rune", `"a"`, `a`, api.OK},
		{"words", `"a word"`, `a word`, api.OK},
		{"other runes", `"é中𝄞 '"`, `é中𝄞 '`, api.OK},
		{"a mark", `"a\"b"`, `a"b`, api.OK},
		{"a mark alone", `"\""`, `"`, api.OK},
		{"a \\ alone", `"\\"`, `\`, api.OK},
		{"a mark at the end", `"a\""`, `a"`, api.OK},
		{"a \\ at the end", `"a\\"`, `a\`, api.OK},
		{"both", `"\\\""`, `\"`, api.OK},
		{"both, the other way", `"\"\\"`, `"\`, api.OK},
		{"three of them", `"\\\\\\"`, `\\\`, api.OK},
		{"a \\ ahead of a rune", `"\\n"`, `\n`, api.OK},
		{"nothing", ``, ``, api.ErrToken},
		{"no quotes", `a`, ``, api.ErrToken},
		{"no quotes, two runes", `ab`, ``, api.ErrToken},
		{"a quote alone", `"`, ``, api.ErrToken},
		{"no first quote", `a"`, ``, api.ErrToken},
		{"no last quote", `"a`, ``, api.ErrToken},
		{"the last quote is a mark's", `"a\"`, ``, api.ErrToken},
		{"the last quote is a mark's, alone", `"\"`, ``, api.ErrToken},
		{"the last quote is a mark's, behind a \\", `"\\\"`, ``, api.ErrToken},
		{"the first quote is a mark's", `\"a"`, ``, api.ErrToken},
		{"a \\ ahead of another rune", `"\a"`, ``, api.ErrToken},
		{"a \\ ahead of a blank", `"a\ b"`, ``, api.ErrToken},
		{"a \\ ahead of an n", `"\n"`, ``, api.ErrToken},
		{"a \\ ahead of another rune, behind a mark", `"\"\é"`, ``, api.ErrToken},
		{"a \\ at the end", `"a"\`, ``, api.ErrToken},
		{"a quote within", `"a"b"`, ``, api.ErrToken},
		{"a quote within, first", `""b"`, ``, api.ErrToken},
		{"a quote within, last", `"b""`, ``, api.ErrToken},
		{"quotes alone", `"""`, ``, api.ErrToken},
		{"quotes within quotes", `""""`, ``, api.ErrToken},
		{"a quote within, behind two \\", `"\\"b"`, ``, api.ErrToken},
		{"a blank ahead", ` "a"`, ``, api.ErrToken},
		{"a blank behind", `"a" `, ``, api.ErrToken},
		{"other quotes", `'a'`, ``, api.ErrToken},
		{"a \\ alone, not quoted", `\`, ``, api.ErrToken},
		{"a Bad rune", "\"a\x00\"", ``, api.ErrRune},
		{"a Bad rune alone", "\"\n\"", ``, api.ErrRune},
		{"a byte that is no UTF-8", "\"\xff\"", ``, api.ErrRune},
		{"fffd itself", "\"\ufffd\"", ``, api.ErrRune},
		{"a Bad rune behind a \\", "\"\\\x00\"", ``, api.ErrRune},
		{"a Bad rune, and no quotes", "\x00", ``, api.ErrRune},
		{"a Bad rune, and no first quote", "a\x00\"", ``, api.ErrRune},
		{"a Bad rune, and no last quote", "\"a\x7f", ``, api.ErrRune},
		{"a Bad rune behind the last quote", "\"a\"\x00", ``, api.ErrRune},
		{"a Bad rune ahead of the first quote", "\xff\"a\"", ``, api.ErrRune},
		{"a Bad rune behind a quote within", "\"a\"b\u00a0\"", ``, api.ErrRune},
		{"a Bad rune behind a \\ ahead of another rune", "\"\\a\xff\"", ``, api.ErrRune},
	} {
		if got, e := Unquote(x.s); got != x.want || e != x.err {
			t.Errorf("%s: Unquote(%q) = %q, %d, want %q, %d", x.name, x.s, got, int(e), x.want, int(x.err))
		}
	}
}

// shortTexts calls yield with each text of up to n of these pieces.
func shortTexts(n int, of []string, yield func(string)) {
	var all func(s string, n int)
	all = func(s string, n int) {
		yield(s)
		if n > 0 {
			for _, p := range of {
				all(s+p, n-1)
			}
		}
	}
	all("", n)
}

// TestUnquoteAllShort: P4.3, of all short texts: the one whose Quote it is, by the chapter's words, or none.
func TestUnquoteAllShort(t *testing.T) {
	of := []string{`"`, `\`, "a", "é", "\x00"}
	whose := map[string]string{}
	shortTexts(5, of, func(s string) {
		if q, e := quoted(s); e == api.OK {
			whose[q] = s
		}
	})
	shortTexts(7, of, func(s string) {
		want, there := whose[s]
		wantErr := api.OK
		if _, e := checked(s); e != api.OK {
			wantErr = e
		} else if !there {
			wantErr = api.ErrToken
		}
		if got, e := Unquote(s); got != want || e != wantErr {
			t.Errorf("Unquote(%q) = %q, %d, want %q, %d", s, got, int(e), want, int(wantErr))
		}
	})
}

// back holds a text against what P4.3 and P4.4 say of it: as one to be quoted, and as one that is.
func back(t *testing.T, s string) {
	t.Helper()
	q, e := Quote(s)
	if want, wantErr := quoted(s); q != want || e != wantErr {
		t.Fatalf("Quote(%.40q) = %.40q, %d, want %.40q, %d", s, q, int(e), want, int(wantErr))
	}
	if e == api.OK {
		if got, e := Unquote(q); got != s || e != api.OK {
			t.Fatalf("Unquote of Quote(%.40q) = %.40q, %d", s, got, int(e))
		}
	}
	u, e := Unquote(s)
	if e != api.OK {
		if u != "" {
			t.Fatalf("Unquote(%.40q) = %.40q beside error %d", s, u, int(e))
		}
		return
	}
	if got, e := Quote(u); got != s || e != api.OK {
		t.Fatalf("Quote of Unquote(%.40q) = %.40q, %d", s, got, int(e))
	}
}

// TestBack: P4.4, of texts of any kind, and of what becomes of them cut at each byte.
func TestBack(t *testing.T) {
	for _, s := range anyTexts() {
		back(t, s)
		back(t, `"`+s+`"`)
		if q, _ := Quote(s); len(q) < 60 {
			for i := range len(q) {
				back(t, q[:i])
				back(t, q[i:])
				back(t, q[:i]+q[i+1:])
			}
		}
	}
	shortTexts(6, []string{`"`, `\`, "a", "\xff"}, func(s string) { back(t, s) })
	for r := range rune(utf8.MaxRune + 1) {
		back(t, string(r))
	}
}

// shares tells whether a text shares memory with another.
func shares(s, other string) bool {
	if len(s) == 0 || len(other) == 0 {
		return false
	}
	at := uintptr(unsafe.Pointer(unsafe.StringData(s)))
	from := uintptr(unsafe.Pointer(unsafe.StringData(other)))
	return at < from+uintptr(len(other)) && from < at+uintptr(len(s))
}

// TestNewMemory: what is handed out is new.
func TestNewMemory(t *testing.T) {
	for _, s := range []string{"a", "small ones", "Great Ones", "é中𝄞", strings.Repeat("long", 1000)} {
		for _, n := range places(s) {
			a, b, _ := Cut(s, n)
			if shares(a, s) || shares(b, s) {
				t.Errorf("what is cut of %.40q behind %d shares its memory", s, n)
			}
		}
		if shares(Lower(s), s) {
			t.Errorf("Lower of %.40q shares its memory", s)
		}
		q, _ := Quote(s)
		u, _ := Unquote(q)
		if shares(q, s) || shares(u, q) {
			t.Errorf("what is quoted of %.40q shares its memory", s)
		}
	}
}

// TestNothingIsKept: a call hangs on its arguments alone, and leaves them as they were.
func TestNothingIsKept(t *testing.T) {
	b := []byte("\"A \\\" Text\"")
	s := string(b)
	for range 2 {
		Lower(s)
		Quote("\x00")
		Unquote(`"a\`)
		Cut(s, 3)
		Check("\xff")
		if u, e := Unquote(s); u != `A " Text` || e != api.OK {
			t.Errorf("Unquote(%q) = %q, %d", s, u, int(e))
		}
		if q, e := Quote(`A " Text`); q != s || e != api.OK {
			t.Errorf("Quote = %q, %d", q, int(e))
		}
		if n, e := Check(s); n != 11 || e != api.OK {
			t.Errorf("Check(%q) = %d, %d", s, n, int(e))
		}
	}
	if s != string(b) {
		t.Errorf("%q became %q", b, s)
	}
}
