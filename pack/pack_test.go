package pack

import (
	"bytes"
	"encoding/binary"
	"math"
	"math/big"
	"math/rand"
	"slices"
	"strconv"
	"strings"
	"testing"
	"unsafe"

	"muster/api"
)

// widths are all that there are.
var widths = []int{1, 2, 4, 8}

// noWidths are numbers that are none: near ones, and such as are one in fewer bits.
var noWidths = []int{
	math.MinInt, math.MinInt + 1, math.MinInt + 8, -256, -8, -4, -2, -1, 0, 3, 5, 6, 7, 9, 10, 12, 15, 16, 17, 32, 63, 64, 65, 255, 256, 257, 258,
	1<<32 + 1, 1<<32 + 2, 1<<32 + 4, 1<<32 + 8, math.MaxInt - 7, math.MaxInt - 1, math.MaxInt,
}

// numbers are those at which a width turns, and some between.
func numbers() []int {
	l := []int{math.MinInt, math.MinInt + 1, math.MinInt32, -65536, -257, -256, -255, -2, -1, 0, 1, 2, 100, 258, 0x0102, 0x01020304, 0x0102030405060708, math.MaxInt - 1, math.MaxInt}
	for bits := 7; bits < 63; bits++ {
		l = append(l, 1<<bits-1, 1<<bits, 1<<bits+1, -1<<bits)
	}
	return l
}

// isNumber is "a number of a width" by the chapter's words, of whole numbers without an end.
func isNumber(n, width int) bool {
	if !slices.Contains(widths, width) || n < 0 {
		return false
	}
	end := new(big.Int).Exp(big.NewInt(256), big.NewInt(int64(width)), nil)
	return big.NewInt(int64(n)).Cmp(end) < 0
}

// numberBytes are the bytes of a number of a width by the chapter's words, the highest first.
func numberBytes(n, width int) string {
	b := binary.BigEndian.AppendUint64(nil, uint64(n))
	return string(b[8-width:])
}

// textsBytes are the bytes of texts by the chapter's words.
func textsBytes(l []string) string {
	s := numberBytes(len(l), 2)
	for _, t := range l {
		s += numberBytes(len(t), 2) + t
	}
	return s
}

// bytesOfAnyKind makes n bytes.
func bytesOfAnyKind(r *rand.Rand, n int) string {
	b := make([]byte, n)
	r.Read(b)
	return string(b)
}

// texts are some that may be: without a byte, of runes, no runes at all, like numbers, and of lengths at which their number turns.
func texts() []string {
	r := rand.New(rand.NewSource(1))
	l := []string{"", "a", "ab", "\x00", "\x00\x00", "\x00\x01", "\xff", "\xff\xff", "\xff\xff\xff", "a word", "żółć, 語 and 𝄞", "\xc3\x28\xff\xfe"}
	for _, n := range []int{127, 128, 254, 255, 256, 257, 511, 512, 32767, 32768, 65534, 65535} {
		l = append(l, strings.Repeat("\xff", n), strings.Repeat("\x00", n), bytesOfAnyKind(r, n))
	}
	return l
}

// lists are some that may be, of each of the texts, of several and of many.
func lists() [][]string {
	all := texts()
	l := [][]string{nil, {}, {"", ""}, {"a", "", "bc"}, {"", "a"}, {"a", ""}, {"\x00\x01", "\x00"}, all}
	for _, s := range all {
		l = append(l, []string{s}, []string{s, "z"}, []string{"", s})
	}
	for _, n := range []int{254, 255, 256, 257, 65534, 65535} {
		l = append(l, slices.Repeat([]string{""}, n), slices.Repeat([]string{"x", "\xff\xff"}, n/2))
	}
	return l
}

// short tells bytes for a fault: the first ones, and how many there are.
func short(s string) string {
	return strconv.Itoa(len(s)) + " bytes " + strconv.Quote(s[:min(len(s), 24)])
}

// TestNumber: P3.1, at numbers and widths that are told by hand.
func TestNumber(t *testing.T) {
	for _, x := range []struct {
		n, width int
		want     string
		err      api.Errno
	}{
		{258, 2, "\x01\x02", api.OK},
		{0, 1, "\x00", api.OK},
		{1, 1, "\x01", api.OK},
		{128, 1, "\x80", api.OK},
		{255, 1, "\xff", api.OK},
		{256, 1, "", api.ErrArg},
		{0, 2, "\x00\x00", api.OK},
		{255, 2, "\x00\xff", api.OK},
		{256, 2, "\x01\x00", api.OK},
		{65535, 2, "\xff\xff", api.OK},
		{65536, 2, "", api.ErrArg},
		{0, 4, "\x00\x00\x00\x00", api.OK},
		{16909060, 4, "\x01\x02\x03\x04", api.OK},
		{2147483648, 4, "\x80\x00\x00\x00", api.OK},
		{4294967295, 4, "\xff\xff\xff\xff", api.OK},
		{4294967296, 4, "", api.ErrArg},
		{0, 8, "\x00\x00\x00\x00\x00\x00\x00\x00", api.OK},
		{4294967296, 8, "\x00\x00\x00\x01\x00\x00\x00\x00", api.OK},
		{72623859790382856, 8, "\x01\x02\x03\x04\x05\x06\x07\x08", api.OK},
		{9223372036854775807, 8, "\x7f\xff\xff\xff\xff\xff\xff\xff", api.OK},
		{9223372036854775807, 4, "", api.ErrArg},
		{9223372036854775807, 2, "", api.ErrArg},
		{9223372036854775807, 1, "", api.ErrArg},
		{-1, 1, "", api.ErrArg},
		{-1, 8, "", api.ErrArg},
		{-9223372036854775808, 8, "", api.ErrArg},
		{0, 0, "", api.ErrArg},
		{0, 3, "", api.ErrArg},
		{0, -1, "", api.ErrArg},
		{1, 16, "", api.ErrArg},
	} {
		if got, e := Number(x.n, x.width); got != x.want || e != x.err {
			t.Errorf("Number(%d, %d) = %x, %d, want %x, %d", x.n, x.width, got, int(e), x.want, int(x.err))
		}
	}
}

// TestNumberOfEachWidth: P3.1, of numbers at all ends, in all widths and numbers that are none.
func TestNumberOfEachWidth(t *testing.T) {
	l := numbers()
	r := rand.New(rand.NewSource(2))
	for range 3000 {
		l = append(l, int(r.Uint64()>>r.Intn(64)))
	}
	for _, n := range l {
		for _, width := range slices.Concat(widths, noWidths) {
			want, wantErr := "", api.ErrArg
			if isNumber(n, width) {
				want, wantErr = numberBytes(n, width), api.OK
			}
			if got, e := Number(n, width); got != want || e != wantErr {
				t.Errorf("Number(%d, %d) = %x, %d, want %x, %d", n, width, got, int(e), want, int(wantErr))
			}
		}
	}
}

// TestText: P3.2, of texts that may be and of such as are too long.
func TestText(t *testing.T) {
	if got, e := Text("ab"); got != "\x00\x02\x61\x62" || e != api.OK {
		t.Errorf("Text(ab) = %x, %d", got, int(e))
	}
	if got, e := Text(""); got != "\x00\x00" || e != api.OK {
		t.Errorf("Text of nothing = %x, %d", got, int(e))
	}
	if got, e := Text("語"); got != "\x00\x03\xe8\xaa\x9e" || e != api.OK {
		t.Errorf("Text of a rune = %x, %d", got, int(e))
	}
	for _, s := range texts() {
		if got, e := Text(s); got != numberBytes(len(s), 2)+s || e != api.OK {
			t.Errorf("Text of %s = %s, %d", short(s), short(got), int(e))
		}
	}
	for _, n := range []int{65536, 65537, 65538, 2 * 65536, 2*65536 + 3, 1 << 24} {
		for _, s := range []string{strings.Repeat("a", n), strings.Repeat("\x00", n)} {
			if got, e := Text(s); got != "" || e != api.ErrBig {
				t.Errorf("Text of %s = %s, %d", short(s), short(got), int(e))
			}
		}
	}
}

// TestTexts: P3.2, of lists that may be.
func TestTexts(t *testing.T) {
	if got, e := Texts(); got != "\x00\x00" || e != api.OK {
		t.Errorf("Texts() = %x, %d", got, int(e))
	}
	if got, e := Texts("a", "", "bc"); got != "\x00\x03\x00\x01a\x00\x00\x00\x02bc" || e != api.OK {
		t.Errorf("Texts of three = %x, %d", got, int(e))
	}
	for _, l := range lists() {
		if len(l) > 300 {
			continue
		}
		if got, e := Texts(l...); got != textsBytes(l) || e != api.OK {
			t.Errorf("Texts of %d (%.40q) = %s, %d", len(l), l, short(got), int(e))
		}
	}
	most := slices.Repeat([]string{"", "x"}, 32768)[:65535]
	want := "\xff\xff" + strings.Repeat("\x00\x00\x00\x01x", 32767) + "\x00\x00"
	if got, e := Texts(most...); got != want || e != api.OK {
		t.Errorf("Texts of 65535 = %s, %d", short(got), int(e))
	}
}

// TestTextsThatMayNotBe: P3.2, of lists and texts that are too long, wherever they stand.
func TestTextsThatMayNotBe(t *testing.T) {
	longest, tooLong := strings.Repeat("a", 65535), strings.Repeat("a", 65536)
	if got, e := Texts(longest, longest, "", longest); len(got) != 2+4*2+3*65535 || e != api.OK {
		t.Errorf("Texts of the longest = %s, %d", short(got), int(e))
	}
	for _, x := range []struct {
		name string
		l    []string
	}{
		{"one too long", []string{tooLong}},
		{"the first", []string{tooLong, "a", "b"}},
		{"one between", []string{"a", tooLong, "b"}},
		{"the last", []string{"a", "b", tooLong}},
		{"all", []string{tooLong, tooLong}},
		{"one behind the longest", []string{longest, tooLong}},
		{"one of 131072 bytes", []string{"a", tooLong + tooLong}},
		{"the last of 65535", append(make([]string, 65534), tooLong)},
		{"65536 texts", make([]string, 65536)},
		{"65537 texts", make([]string, 65537)},
		{"131072 texts", make([]string, 131072)},
		{"65536 texts, one too long", append(make([]string, 65535), tooLong)},
		{"30000 of the longest ahead of one too long", append(slices.Repeat([]string{longest}, 30000), tooLong)},
	} {
		if got, e := Texts(x.l...); got != "" || e != api.ErrBig {
			t.Errorf("%s: %s, %d", x.name, short(got), int(e))
		}
	}
}

// TestTakeNumber: P3.3, at numbers that are told by hand, and the order of its errors.
func TestTakeNumber(t *testing.T) {
	for _, x := range []struct {
		name      string
		s         string
		at, width int
		n, to     int
		err       api.Errno
	}{
		{"the highest first", "\x01\x02", 0, 2, 258, 2, api.OK},
		{"behind others", "ab\x01\x02", 2, 2, 258, 4, api.OK},
		{"ahead of others", "\x01\x02ab", 0, 2, 258, 2, api.OK},
		{"one byte of more", "\x01\x02\x03", 1, 1, 2, 2, api.OK},
		{"the greatest of width 1", "\xff", 0, 1, 255, 1, api.OK},
		{"the greatest of width 2", "\xff\xff", 0, 2, 65535, 2, api.OK},
		{"the greatest of width 4", "\xff\xff\xff\xff", 0, 4, 4294967295, 4, api.OK},
		{"the greatest of width 8", "\x7f\xff\xff\xff\xff\xff\xff\xff", 0, 8, 9223372036854775807, 8, api.OK},
		{"each byte in its place", "\x01\x02\x03\x04\x05\x06\x07\x08", 0, 8, 72623859790382856, 8, api.OK},
		{"one more than the greatest", "\x80\x00\x00\x00\x00\x00\x00\x00", 0, 8, 0, 0, api.ErrArg},
		{"the most bits", "\xff\xff\xff\xff\xff\xff\xff\xff", 0, 8, 0, 0, api.ErrArg},
		{"the most bits behind others", "a\xff\xff\xff\xff\xff\xff\xff\xffb", 1, 8, 0, 0, api.ErrArg},
		{"too short to be too great", "\xff\xff\xff\xff\xff\xff\xff", 0, 8, 0, 0, api.ErrShort},
		{"too short to be too great, from a place on", "\xff\xff\xff\xff\xff\xff\xff\xff", 1, 8, 0, 0, api.ErrShort},
		{"nothing", "", 0, 1, 0, 0, api.ErrShort},
		{"at the end", "ab", 2, 1, 0, 0, api.ErrShort},
		{"one byte of two", "a", 0, 2, 0, 0, api.ErrShort},
		{"three bytes of four", "abc", 0, 4, 0, 0, api.ErrShort},
		{"beyond the end", "ab", 3, 1, 0, 0, api.ErrArg},
		{"beyond nothing", "", 1, 1, 0, 0, api.ErrArg},
		{"below 0", "ab", -1, 1, 0, 0, api.ErrArg},
		{"the least place", "ab", math.MinInt, 1, 0, 0, api.ErrArg},
		{"the greatest place", "ab", math.MaxInt, 8, 0, 0, api.ErrArg},
		{"no width", "abcdefgh", 0, 3, 0, 0, api.ErrArg},
		{"width 0", "abcdefgh", 0, 0, 0, 0, api.ErrArg},
		{"a width below 0", "abcdefgh", 4, -1, 0, 0, api.ErrArg},
		{"no width, and too short", "", 0, 3, 0, 0, api.ErrArg},
		{"no width, at the end", "ab", 2, 16, 0, 0, api.ErrArg},
		{"no width, and no place", "ab", 3, 9, 0, 0, api.ErrArg},
	} {
		if n, to, e := TakeNumber(x.s, x.at, x.width); n != x.n || to != x.to || e != x.err {
			t.Errorf("%s: TakeNumber(%x, %d, %d) = %d, %d, %d, want %d, %d, %d", x.name, x.s, x.at, x.width, n, to, int(e), x.n, x.to, int(x.err))
		}
	}
}

// takenNumber is TakeNumber by the chapter's words, of whole numbers without an end.
func takenNumber(s string, at, width int) (int, int, api.Errno) {
	if at < 0 || at > len(s) || !slices.Contains(widths, width) {
		return 0, 0, api.ErrArg
	}
	if len(s)-at < width {
		return 0, 0, api.ErrShort
	}
	n := new(big.Int).SetBytes([]byte(s[at : at+width]))
	if !n.IsInt64() {
		return 0, 0, api.ErrArg
	}
	return int(n.Int64()), at + width, api.OK
}

// takenText is TakeText by the chapter's words.
func takenText(s string, at int) (string, int, api.Errno) {
	n, to, e := takenNumber(s, at, 2)
	if e != api.OK {
		return "", 0, e
	}
	if len(s)-to < n {
		return "", 0, api.ErrShort
	}
	return s[to : to+n], to + n, api.OK
}

// takenTexts is TakeTexts by the chapter's words.
func takenTexts(s string, at int) ([]string, int, api.Errno) {
	n, to, e := takenNumber(s, at, 2)
	var l []string
	for i := 0; e == api.OK && i < n; i++ {
		var one string
		one, to, e = takenText(s, to)
		l = append(l, one)
	}
	if e != api.OK {
		return nil, 0, e
	}
	return l, to, api.OK
}

// takeAll takes all that there is at a place, and holds it against the chapter's words (P3.3) and against its bytes (P3.5).
func takeAll(t *testing.T, s string, at int) {
	t.Helper()
	same := func(name, laid string, to int, e, layErr api.Errno, wantTo int, wantErr api.Errno) {
		t.Helper()
		if to != wantTo || e != wantErr {
			t.Fatalf("%s of %s at %d: %d, %d, want %d, %d", name, short(s), at, to, int(e), wantTo, int(wantErr))
		}
		if e == api.OK && (layErr != api.OK || laid != s[at:to]) {
			t.Fatalf("%s of %s from %d to %d: laid it is %s, %d", name, short(s), at, to, short(laid), int(layErr))
		}
	}
	for _, width := range widths {
		n, to, e := TakeNumber(s, at, width)
		want, wantTo, wantErr := takenNumber(s, at, width)
		if n != want {
			t.Fatalf("TakeNumber of %s at %d, %d: %d, want %d", short(s), at, width, n, want)
		}
		laid, layErr := Number(n, width)
		same("TakeNumber", laid, to, e, layErr, wantTo, wantErr)
	}
	one, to, e := TakeText(s, at)
	want, wantTo, wantErr := takenText(s, at)
	if one != want {
		t.Fatalf("TakeText of %s at %d: %s, want %s", short(s), at, short(one), short(want))
	}
	laid, layErr := Text(one)
	same("TakeText", laid, to, e, layErr, wantTo, wantErr)
	l, to, e := TakeTexts(s, at)
	wantList, wantTo, wantErr := takenTexts(s, at)
	if !slices.Equal(l, wantList) {
		t.Fatalf("TakeTexts of %s at %d: %.40q, want %.40q", short(s), at, l, wantList)
	}
	laid, layErr = Texts(l...)
	same("TakeTexts", laid, to, e, layErr, wantTo, wantErr)
}

// TestTakeText: P3.3, of texts that are told by hand.
func TestTakeText(t *testing.T) {
	for _, x := range []struct {
		name string
		s    string
		at   int
		want string
		to   int
		err  api.Errno
	}{
		{"two bytes", "\x00\x02ab", 0, "ab", 4, api.OK},
		{"behind and ahead of others", "xy\x00\x02abz", 2, "ab", 6, api.OK},
		{"no byte", "\x00\x00", 0, "", 2, api.OK},
		{"no byte, ahead of others", "\x00\x00ab", 0, "", 2, api.OK},
		{"256 bytes", "\x01\x00" + strings.Repeat("\xff", 256), 0, strings.Repeat("\xff", 256), 258, api.OK},
		{"the longest", "\xff\xff" + strings.Repeat("b", 65536), 0, strings.Repeat("b", 65535), 65537, api.OK},
		{"a byte fewer than the longest", "\xff\xff" + strings.Repeat("b", 65534), 0, "", 0, api.ErrShort},
		{"a byte fewer than are counted", "\x00\x03ab", 0, "", 0, api.ErrShort},
		{"a count alone", "\x00\x01", 0, "", 0, api.ErrShort},
		{"half a count", "\x00", 0, "", 0, api.ErrShort},
		{"nothing", "", 0, "", 0, api.ErrShort},
		{"at the end", "\x00\x00", 2, "", 0, api.ErrShort},
		{"beyond the end", "\x00\x00", 3, "", 0, api.ErrArg},
		{"beyond nothing", "", 1, "", 0, api.ErrArg},
		{"below 0", "\x00\x00", -1, "", 0, api.ErrArg},
		{"the least place", "\x00\x00", math.MinInt, "", 0, api.ErrArg},
		{"the greatest place", "\x00\x00", math.MaxInt, "", 0, api.ErrArg},
	} {
		if got, to, e := TakeText(x.s, x.at); got != x.want || to != x.to || e != x.err {
			t.Errorf("%s: %s, %d, %d, want %s, %d, %d", x.name, short(got), to, int(e), short(x.want), x.to, int(x.err))
		}
	}
}

// TestTakeTexts: P3.3, of lists that are told by hand.
func TestTakeTexts(t *testing.T) {
	three := "\x00\x03\x00\x01a\x00\x00\x00\x02bc"
	for _, x := range []struct {
		name string
		s    string
		at   int
		want []string
		to   int
		err  api.Errno
	}{
		{"three texts", three, 0, []string{"a", "", "bc"}, 11, api.OK},
		{"behind and ahead of others", "xy" + three + "\x00\x01z", 2, []string{"a", "", "bc"}, 13, api.OK},
		{"no text", "\x00\x00", 0, nil, 2, api.OK},
		{"no text, ahead of others", "\x00\x00\x00\x01a", 0, nil, 2, api.OK},
		{"256 texts", "\x01\x00" + strings.Repeat("\x00\x01y", 256), 0, slices.Repeat([]string{"y"}, 256), 770, api.OK},
		{"the most texts", "\xff\xff" + strings.Repeat("\x00\x00", 65536), 0, make([]string, 65535), 2 + 2*65535, api.OK},
		{"a text fewer than the most", "\xff\xff" + strings.Repeat("\x00\x00", 65534), 0, nil, 0, api.ErrShort},
		{"the last text is cut", three[:10], 0, nil, 0, api.ErrShort},
		{"the last text's count is cut", three[:8], 0, nil, 0, api.ErrShort},
		{"the last text is not there", three[:7], 0, nil, 0, api.ErrShort},
		{"the first text is cut", three[:4], 0, nil, 0, api.ErrShort},
		{"a count alone", "\x00\x01", 0, nil, 0, api.ErrShort},
		{"half a count", "\x00", 0, nil, 0, api.ErrShort},
		{"nothing", "", 0, nil, 0, api.ErrShort},
		{"at the end", "\x00\x00", 2, nil, 0, api.ErrShort},
		{"beyond the end", "\x00\x00", 3, nil, 0, api.ErrArg},
		{"beyond nothing", "", 1, nil, 0, api.ErrArg},
		{"below 0", "\x00\x00", -1, nil, 0, api.ErrArg},
		{"the least place", "\x00\x00", math.MinInt, nil, 0, api.ErrArg},
		{"the greatest place", "\x00\x00", math.MaxInt, nil, 0, api.ErrArg},
	} {
		got, to, e := TakeTexts(x.s, x.at)
		if !slices.Equal(got, x.want) || to != x.to || e != x.err {
			t.Errorf("%s: %.40q, %d, %d, want %.40q, %d, %d", x.name, got, to, int(e), x.want, x.to, int(x.err))
		}
		if e != api.OK && len(got) != 0 {
			t.Errorf("%s: beside error %d %d texts", x.name, int(e), len(got))
		}
	}
}

// places are some in s, all of few, and some outside it.
func places(s string) []int {
	l := []int{math.MinInt, -65536, -2, -1, len(s), len(s) + 1, len(s) + 2, len(s) + 65536, math.MaxInt - 1, math.MaxInt}
	for i := 0; i < len(s); i += max(1, len(s)/40) {
		l = append(l, i)
	}
	return l
}

// TestTakeFromAnyBytes: P3.3 and P3.5, of bytes of any kind at any place.
func TestTakeFromAnyBytes(t *testing.T) {
	r := rand.New(rand.NewSource(3))
	for _, s := range append(texts(), bytesOfAnyKind(r, 300000)) {
		for _, at := range places(s) {
			takeAll(t, s, at)
		}
	}
	for range 4000 {
		b := []byte(bytesOfAnyKind(r, r.Intn(40)))
		for i := range b {
			if r.Intn(3) > 0 {
				b[i] %= 4
			}
		}
		for _, at := range places(string(b)) {
			takeAll(t, string(b), at)
		}
	}
}

// TestTakeFromAllShortBytes: P3.3 and P3.5, of all bytes of up to seven of which each is 0, 1, 2 or 255.
func TestTakeFromAllShortBytes(t *testing.T) {
	kinds := "\x00\x01\x02\xff"
	var all func(s string)
	all = func(s string) {
		takeAll(t, s, 0)
		if len(s) < 7 {
			for i := range len(kinds) {
				all(s + kinds[i:i+1])
			}
		}
	}
	all("")
}

// around are what may stand ahead of what is laid, and behind it.
var around = []string{"", "\x00", "\xff", "\x00\x00", "\xff\xff\xff\xff\xff\xff\xff\xff", "word"}

// TestNumberBack: P3.4, of each number that has bytes, wherever they stand; and P3.3, cut at each byte.
func TestNumberBack(t *testing.T) {
	for _, n := range numbers() {
		for _, width := range widths {
			laid, e := Number(n, width)
			if e != api.OK {
				continue
			}
			for _, ahead := range around {
				for _, behind := range around {
					got, to, e := TakeNumber(ahead+laid+behind, len(ahead), width)
					if got != n || to != len(ahead)+width || e != api.OK {
						t.Errorf("%d of width %d, behind %x, ahead of %x: %d, %d, %d", n, width, ahead, behind, got, to, int(e))
					}
				}
				for cut := range laid {
					if got, to, e := TakeNumber(ahead+laid[:cut], len(ahead), width); got != 0 || to != 0 || e != api.ErrShort {
						t.Errorf("%d of width %d, cut at %d, behind %x: %d, %d, %d", n, width, cut, ahead, got, to, int(e))
					}
				}
			}
		}
	}
}

// TestTextBack: P3.4, of each text, wherever it stands; and P3.3, cut.
func TestTextBack(t *testing.T) {
	for _, s := range texts() {
		laid, e := Text(s)
		if e != api.OK {
			t.Fatalf("Text of %s: %d", short(s), int(e))
		}
		for _, ahead := range around {
			for _, behind := range around {
				got, to, e := TakeText(ahead+laid+behind, len(ahead))
				if got != s || to != len(ahead)+2+len(s) || e != api.OK {
					t.Errorf("%s, behind %x, ahead of %x: %s, %d, %d", short(s), ahead, behind, short(got), to, int(e))
				}
			}
		}
		for cut := 0; cut < len(laid); cut += max(1, len(laid)/50) {
			if got, to, e := TakeText(laid[:cut], 0); got != "" || to != 0 || e != api.ErrShort {
				t.Errorf("%s, cut at %d: %s, %d, %d", short(s), cut, short(got), to, int(e))
			}
		}
	}
}

// TestTextsBack: P3.4, of each list, wherever it stands; and P3.3, cut.
func TestTextsBack(t *testing.T) {
	for _, l := range lists() {
		laid, e := Texts(l...)
		if e != api.OK {
			t.Fatalf("Texts of %d: %d", len(l), int(e))
		}
		for i, ahead := range around {
			behind := around[len(around)-1-i]
			got, to, e := TakeTexts(ahead+laid+behind, len(ahead))
			if !slices.Equal(got, l) || to != len(ahead)+len(laid) || e != api.OK {
				t.Errorf("%d texts (%.40q), behind %x, ahead of %x: %d, %d, %d", len(l), l, ahead, behind, len(got), to, int(e))
			}
		}
		for cut := 0; cut < len(laid); cut += max(1, len(laid)/20) {
			if got, to, e := TakeTexts(laid[:cut], 0); len(got) != 0 || to != 0 || e != api.ErrShort {
				t.Errorf("%d texts (%.40q), cut at %d: %d, %d, %d", len(l), l, cut, len(got), to, int(e))
			}
		}
	}
}

// TestOneBehindTheOther: P3.4, of numbers, texts and lists that stand one behind the other.
func TestOneBehindTheOther(t *testing.T) {
	var laid []string
	keep := func(s string, e api.Errno) {
		if e != api.OK {
			t.Fatalf("error %d", int(e))
		}
		laid = append(laid, s)
	}
	keep(Number(7, 1))
	keep(Text("one"))
	keep(Texts("two", "", "three"))
	keep(Number(math.MaxInt, 8))
	keep(Texts())
	keep(Text(""))
	keep(Number(65536, 4))
	s := strings.Join(laid, "")
	n, at, e := TakeNumber(s, 0, 1)
	text, at2, e2 := TakeText(s, at)
	l, at3, e3 := TakeTexts(s, at2)
	greatest, at4, e4 := TakeNumber(s, at3, 8)
	none, at5, e5 := TakeTexts(s, at4)
	empty, at6, e6 := TakeText(s, at5)
	last, at7, e7 := TakeNumber(s, at6, 4)
	for i, e := range []api.Errno{e, e2, e3, e4, e5, e6, e7} {
		if e != api.OK {
			t.Errorf("the taking %d: error %d", i, int(e))
		}
	}
	if n != 7 || text != "one" || !slices.Equal(l, []string{"two", "", "three"}) || greatest != math.MaxInt || len(none) != 0 || empty != "" || last != 65536 || at7 != len(s) {
		t.Errorf("%d %q %q %d %q %q %d, to %d of %d", n, text, l, greatest, none, empty, last, at7, len(s))
	}
}

// within tells whether s shares memory with all.
func within(s, all string) bool {
	if len(s) == 0 || len(all) == 0 {
		return false
	}
	at := uintptr(unsafe.Pointer(unsafe.StringData(s)))
	from := uintptr(unsafe.Pointer(unsafe.StringData(all)))
	return at < from+uintptr(len(all)) && from < at+uintptr(len(s))
}

// TestNewMemory: what is handed out is new, each time.
func TestNewMemory(t *testing.T) {
	list := []string{"one", "two", strings.Repeat("three", 1000)}
	laid, _ := Texts(list...)
	for _, s := range list {
		text, _ := Text(s)
		if within(text, s) || within(laid, s) {
			t.Errorf("what is laid of %s shares its memory", short(s))
		}
		if back, _, _ := TakeText(text, 0); within(back, text) {
			t.Errorf("what is taken of %s shares its memory", short(s))
		}
	}
	one, _, _ := TakeTexts(laid, 0)
	for _, s := range one {
		if within(s, laid) {
			t.Errorf("of the texts %s shares their memory", short(s))
		}
	}
	clear(one[:cap(one)])
	if other, _, _ := TakeTexts(laid, 0); !slices.Equal(other, list) {
		t.Errorf("a list of an earlier call is kept: %.40q", other)
	}
}

// TestNothingIsKept: a call hangs on its arguments alone, and leaves its list as it was, the spare room too.
func TestNothingIsKept(t *testing.T) {
	was := []string{"a", "bc", "spare", ""}
	l := slices.Clone(was)
	for range 2 {
		if got, e := Texts(l[:2]...); got != "\x00\x02\x00\x01a\x00\x02bc" || e != api.OK {
			t.Errorf("Texts(%q) = %x, %d", l[:2], got, int(e))
		}
		Texts(l...)
		Number(-1, 3)
		Text("other")
		TakeTexts("\x00\x09\x00\x01a", 0)
		TakeText("\x00\x09a", 1)
		TakeNumber("abc", 1, 2)
	}
	if !slices.Equal(l, was) {
		t.Errorf("%q became %q", was, l)
	}
	b := bytes.Repeat([]byte{0, 1, 'x'}, 3)
	s := string(b)
	TakeText(s, 0)
	TakeTexts(s, 0)
	if s != string(b) {
		t.Errorf("%x became %x", b, s)
	}
}
