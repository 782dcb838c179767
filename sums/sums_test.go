package sums

import (
	"math"
	"math/big"
	"math/rand"
	"slices"
	"strings"
	"testing"
)

// numbers are sums, and numbers that are none: parts at 0, at 1 and about the modulus.
func numbers() []uint32 {
	ends := []uint32{0, 1, 2, 255, 256, 32768, 65519, 65520, 65521, 65522, 65534, 65535}
	var l []uint32
	for _, h := range ends {
		for _, w := range ends {
			l = append(l, h<<16|w)
		}
	}
	return l
}

// lengths are the numbers of bytes at which Join turns, and some between.
var lengths = []int{
	math.MinInt, math.MinInt + 1, math.MinInt32, -65522, -65521, -65520, -2, -1,
	0, 1, 2, 3, 7, 255, 256, 60000, 65519, 65520, 65521, 65522, 65535, 65536, 65537,
	2*65521 - 1, 2 * 65521, 2*65521 + 1, 65521 * 65521, 65521*65521 + 1,
	math.MaxInt32, math.MaxInt32 + 1, math.MaxUint32, math.MaxUint32 + 1, math.MaxInt / 2, math.MaxInt - 1, math.MaxInt,
}

// byteByByte goes on with the bytes of s by the chapter's words, one after the other.
func byteByByte(sum uint32, s string) uint32 {
	first, second := uint64(sum)%65536%65521, uint64(sum)/65536%65521
	for i := 0; i < len(s); i++ {
		first = (first + uint64(s[i])) % 65521
		second = (second + first) % 65521
	}
	return uint32(second*65536 + first)
}

// joined is Join by the chapter's words, of whole numbers without an end.
func joined(a, b uint32, n int) uint32 {
	modulus, one := big.NewInt(65521), big.NewInt(1)
	part := func(sum uint32, by uint32) *big.Int {
		return new(big.Int).Mod(big.NewInt(int64(sum/by%65536)), modulus)
	}
	count := big.NewInt(int64(n))
	if n < 0 {
		count = new(big.Int)
	}
	count.Mod(count, modulus)
	first := new(big.Int).Add(part(a, 1), part(b, 1))
	first.Sub(first, one).Mod(first, modulus)
	second := new(big.Int).Add(part(a, 65536), part(b, 65536))
	second.Add(second, count.Mul(count, new(big.Int).Sub(part(a, 1), one))).Mod(second, modulus)
	return uint32(second.Uint64()*65536 + first.Uint64())
}

// text makes n bytes of any kind.
func text(r *rand.Rand, n int) string {
	b := make([]byte, n)
	r.Read(b)
	return string(b)
}

// texts are some of each kind: without a byte, of equal bytes, of runes, no runes at all, and long ones.
func texts() []string {
	r := rand.New(rand.NewSource(1))
	l := []string{"", "\x00", "\x01", "a", "\x7f", "\x80", "\xff", "abc", "Wikipedia", "żółć, 語 and 𝄞", "\xc3\x28\xff\xfe"}
	for _, n := range []int{2, 3, 100, 255, 256, 257, 5551, 5552, 5553, 2*5552 - 1, 2 * 5552, 2*5552 + 1, 65520, 65521, 65522, 65536, 200000} {
		l = append(l, strings.Repeat("\xff", n), strings.Repeat("\x00", n), text(r, n))
	}
	return l
}

// TestSum: P2.1, at values that are known from elsewhere.
func TestSum(t *testing.T) {
	for _, x := range []struct {
		name string
		l    []string
		want uint32
	}{
		{"no text at all", nil, 0x00000001},
		{"a list without an element", []string{}, 0x00000001},
		{"an empty text", []string{""}, 0x00000001},
		{"empty texts", []string{"", "", ""}, 0x00000001},
		{"the byte 0", []string{"\x00"}, 0x00010001},
		{"the byte 1", []string{"\x01"}, 0x00020002},
		{"a letter", []string{"a"}, 0x00620062},
		{"three letters", []string{"abc"}, 0x024d0127},
		{"a word", []string{"Wikipedia"}, 0x11e60398},
		{"its parts", []string{"Wiki", "pedia"}, 0x11e60398},
		{"its letters, and empty texts between", []string{"", "W", "i", "k", "", "i", "p", "e", "d", "i", "a", ""}, 0x11e60398},
		{"its parts the other way about", []string{"pedia", "Wiki"}, 0x120e0398},
		{"the greatest byte", []string{"\xff"}, 0x01000100},
		{"a rune of two bytes", []string{"\u00e9"}, 0x0231016d},
		{"bytes that are no runes", []string{"\xfe\xfd\xff"}, 0x05f602fb},
		{"the low part just below the modulus", []string{strings.Repeat("\xff", 256), "\xef"}, 0x07fffff0},
		{"the low part at the modulus", []string{strings.Repeat("\xff", 256), "\xf0"}, 0x08000000},
		{"the low part beyond the modulus", []string{strings.Repeat("\xff", 257)}, 0x080f000f},
	} {
		if got := Sum(x.l...); got != x.want {
			t.Errorf("%s: Sum(%.20q) = %08x, want %08x", x.name, x.l, got, x.want)
		}
	}
}

// TestSumOfTexts: P2.1, byte by byte, of texts of all kinds.
func TestSumOfTexts(t *testing.T) {
	for _, s := range texts() {
		if got, want := Sum(s), byteByByte(1, s); got != want {
			t.Errorf("Sum of %d bytes, %.20q: %08x, want %08x", len(s), s, got, want)
		}
	}
	if got, want := Sum(texts()...), byteByByte(1, strings.Join(texts(), "")); got != want {
		t.Errorf("Sum of all of them: %08x, want %08x", got, want)
	}
}

// TestEachByte: P2.1 and P2.2, of each byte that there is.
func TestEachByte(t *testing.T) {
	for b := range 256 {
		s := string([]byte{byte(b)})
		if got, want := Sum(s), uint32(b+1)<<16|uint32(b+1); got != want {
			t.Errorf("Sum(%q) = %08x, want %08x", s, got, want)
		}
		for _, sum := range numbers() {
			if got, want := More(sum, s), byteByByte(sum, s); got != want {
				t.Errorf("More(%08x, %q) = %08x, want %08x", sum, s, got, want)
			}
		}
	}
}

// TestMore: P2.2, where its words turn.
func TestMore(t *testing.T) {
	for _, x := range []struct {
		name string
		sum  uint32
		s    string
		want uint32
	}{
		{"nothing to go on with", 0x11e60398, "", 0x11e60398},
		{"0", 0, "", 0},
		{"0, and a byte", 0, "a", 0x00610061},
		{"the greatest sum", 0xfff0fff0, "", 0xfff0fff0},
		{"the low part is the modulus", 0x0003fff1, "", 0x00030000},
		{"the high part is the modulus", 0xfff10003, "", 0x00000003},
		{"both are the modulus", 0xfff1fff1, "", 0x00000000},
		{"both are beyond it", 0xffffffff, "", 0x000e000e},
		{"beyond it, and a byte", 0xffffffff, "\x01", 0x001d000f},
		{"the low part comes round", 0x0000fff0, "\x01", 0x00000000},
		{"the high part comes round", 0xfff00000, "\x01", 0x00000001},
		{"both come round", 0xfff0fff0, "\x02", 0x00000001},
		{"the greatest byte", 0xfff0fff0, "\xff", 0x00fd00fe},
		{"the rest of a word", 0x03da0195, "pedia", 0x11e60398},
	} {
		if got := More(x.sum, x.s); got != x.want {
			t.Errorf("%s: More(%08x, %q) = %08x, want %08x", x.name, x.sum, x.s, got, x.want)
		}
	}
}

// TestMoreOfAnyNumber: P2.2, byte by byte, of numbers at all ends.
func TestMoreOfAnyNumber(t *testing.T) {
	for _, s := range texts() {
		for _, sum := range []uint32{0, 1, 0xfff0fff0, 0xfff1fff1, 0xfff0ffff, 0xfffffff0, 0xffffffff, 0x12345678} {
			if got, want := More(sum, s), byteByByte(sum, s); got != want {
				t.Errorf("More(%08x, %d bytes, %.20q) = %08x, want %08x", sum, len(s), s, got, want)
			}
		}
	}
}

// TestMoreOfEachLength: P2.1 and P2.2, of the greatest parts and the greatest bytes, so that no length lets a part wrap round.
func TestMoreOfEachLength(t *testing.T) {
	s := strings.Repeat("\xff", 12000)
	first, greatest := uint32(1), uint32(0xfff0fff0)
	for n := range len(s) + 1 {
		if got := Sum(s[:n]); got != first {
			t.Fatalf("Sum of %d bytes: %08x, want %08x", n, got, first)
		}
		if got := More(0xfff0fff0, s[:n]); got != greatest {
			t.Fatalf("More of %d bytes: %08x, want %08x", n, got, greatest)
		}
		first, greatest = byteByByte(first, "\xff"), byteByByte(greatest, "\xff")
	}
}

// TestJoin: P2.3, where its words turn.
func TestJoin(t *testing.T) {
	for _, x := range []struct {
		name string
		a, b uint32
		n    int
		want uint32
	}{
		{"a word's parts", 0x03da0195, 0x06280204, 5, 0x11e60398},
		{"two sums of nothing", 1, 1, 0, 1},
		{"nothing behind", 0x11e60398, 1, 0, 0x11e60398},
		{"nothing ahead", 1, 0x11e60398, 9, 0x11e60398},
		{"a length ahead of which nothing stands", 1, 0x11e60398, math.MaxInt, 0x11e60398},
		{"0 and 0: one less is the greatest part", 0, 0, 0, 0x0000fff0},
		{"0 and 0, and a length", 0, 0, 1, 0xfff0fff0},
		{"0 and 0, and the longest below the modulus", 0, 0, 65520, 0x0001fff0},
		{"one less only once", 0, 1, 0, 0x00000000},
		{"the length as it is", 0x00000003, 0x00000001, 7, 0x000e0003},
		{"the length is the modulus", 0x00000003, 0x00000001, 65521, 0x00000003},
		{"the length is one more", 0x00000003, 0x00000001, 65522, 0x00020003},
		{"the length is below 0", 0x00020003, 0x00040005, -1, 0x00060007},
		{"the length is the least int", 0x00020003, 0x00040005, math.MinInt, 0x00060007},
		{"the low part of b counts not as often as the length", 0x00000001, 0x00000009, 7, 0x00000009},
		{"the greatest sums", 0xfff0fff0, 0xfff0fff0, 0, 0xffefffee},
		{"the greatest sums, the greatest remainder", 0xfff0fff0, 0xfff0fff0, 65520, 0x0000ffee},
		{"parts at the modulus", 0xfff1fff1, 0xfff1fff1, 0, 0x0000fff0},
		{"parts beyond the modulus", 0xffffffff, 0xffffffff, 2, 0x0036001b},
	} {
		if got := Join(x.a, x.b, x.n); got != x.want {
			t.Errorf("%s: Join(%08x, %08x, %d) = %08x, want %08x", x.name, x.a, x.b, x.n, got, x.want)
		}
	}
}

// TestJoinOfAnyNumbers: P2.3, of numbers and lengths at all ends and from a fixed seed.
func TestJoinOfAnyNumbers(t *testing.T) {
	same := func(a, b uint32, n int) {
		if got, want := Join(a, b, n), joined(a, b, n); got != want {
			t.Fatalf("Join(%08x, %08x, %d) = %08x, want %08x", a, b, n, got, want)
		}
	}
	for _, a := range numbers() {
		for _, b := range []uint32{0, 1, 0xfff00000, 0x0000fff0, 0xfff0fff0, 0xfff1fff1, 0xffffffff} {
			for _, n := range lengths {
				same(a, b, n)
				same(b, a, n)
			}
		}
	}
	r := rand.New(rand.NewSource(2))
	for range 20000 {
		same(r.Uint32(), r.Uint32(), int(r.Uint64()))
		same(r.Uint32(), r.Uint32(), r.Intn(200000))
	}
}

// TestParts: P2.4, of all pairs of texts.
func TestParts(t *testing.T) {
	l := texts()
	sums := make([]uint32, len(l))
	for i, s := range l {
		sums[i] = Sum(s)
	}
	for i, s := range l {
		for j, u := range l {
			want := Sum(s, u)
			if got := More(sums[i], u); got != want {
				t.Errorf("More of %d and %d bytes (%.20q, %.20q): %08x, want %08x", len(s), len(u), s, u, got, want)
			}
			if got := Join(sums[i], sums[j], len(u)); got != want {
				t.Errorf("Join of %d and %d bytes (%.20q, %.20q): %08x, want %08x", len(s), len(u), s, u, got, want)
			}
		}
	}
}

// TestPartsAtEachPlace: P2.4, of one text, parted at each of its bytes.
func TestPartsAtEachPlace(t *testing.T) {
	s := text(rand.New(rand.NewSource(3)), 6000)
	want := byteByByte(1, s)
	for i := range len(s) + 1 {
		ahead, behind := s[:i], s[i:]
		if got := Sum(ahead, behind); got != want {
			t.Fatalf("Sum parted at %d: %08x, want %08x", i, got, want)
		}
		if got := More(Sum(ahead), behind); got != want {
			t.Fatalf("More at %d: %08x, want %08x", i, got, want)
		}
		if got := Join(Sum(ahead), Sum(behind), len(behind)); got != want {
			t.Fatalf("Join at %d: %08x, want %08x", i, got, want)
		}
	}
}

// TestJoinOfMany: P2.4, of many texts: it is of no matter which two are joined first.
func TestJoinOfMany(t *testing.T) {
	r := rand.New(rand.NewSource(4))
	for range 200 {
		l := make([]string, r.Intn(9))
		for i := range l {
			l[i] = text(r, r.Intn(3)*r.Intn(9000))
		}
		forth, back, length := Sum(), Sum(), 0
		for _, s := range l {
			forth = Join(forth, Sum(s), len(s))
		}
		for _, s := range slices.Backward(l) {
			back = Join(Sum(s), back, length)
			length += len(s)
		}
		if want := Sum(l...); forth != want || back != want {
			t.Fatalf("%d texts joined: %08x from the first on, %08x from the last, want %08x", len(l), forth, back, want)
		}
	}
}

// turnedTexts are texts of up to 60000 bytes in which bytes are turned.
func turnedTexts() []string {
	r := rand.New(rand.NewSource(5))
	return []string{
		"a", "ab", "Wikipedia", text(r, 300), text(r, 5552), text(r, 5553), text(r, 60000),
		strings.Repeat("\x00", 60000), strings.Repeat("\xff", 60000), strings.Repeat("\x00\xff", 30000),
	}
}

// places are some of n places: all of few, else the first, the last and some between.
func places(n int) []int {
	var l []int
	for i := 0; i < n; i += max(1, n/200) {
		l = append(l, i)
	}
	return append(l, max(0, n-1))
}

// TestOtherByte: P2.5, a byte that is another one.
func TestOtherByte(t *testing.T) {
	for _, s := range turnedTexts() {
		was, b := Sum(s), []byte(s)
		for _, i := range places(len(s)) {
			for _, d := range []byte{1, 2, 15, 128, 240, 255} {
				b[i] = s[i] + d
				if Sum(string(b)) == was {
					t.Errorf("%d bytes, %.20q: the byte %d at %d has the sum of %d", len(s), s, b[i], i, s[i])
				}
			}
			b[i] = s[i]
		}
	}
}

// TestNeighboursTurned: P2.5, two unlike neighbours that are changed about.
func TestNeighboursTurned(t *testing.T) {
	for _, s := range turnedTexts() {
		was, b := Sum(s), []byte(s)
		for _, i := range places(len(s) - 1) {
			if i+1 >= len(s) || s[i] == s[i+1] {
				continue
			}
			b[i], b[i+1] = s[i+1], s[i]
			if Sum(string(b)) == was {
				t.Errorf("%d bytes, %.20q: those at %d and behind may be changed about", len(s), s, i)
			}
			b[i], b[i+1] = s[i], s[i+1]
		}
	}
}

// TestEachTwoTurned: P2.5, of each two bytes at both ends of a text of 60000.
func TestEachTwoTurned(t *testing.T) {
	fill := strings.Repeat("m", 59998)
	filled := Sum(fill)
	for x := range 256 {
		for y := range 256 {
			one, two := string([]byte{byte(x), byte(y)}), string([]byte{byte(y), byte(x)})
			if x != y && (More(filled, one) == More(filled, two) || Join(Sum(one), filled, 59998) == Join(Sum(two), filled, 59998)) {
				t.Fatalf("%q has the sum of %q", one, two)
			}
			if x != y && More(filled, one[:1]) == More(filled, one[1:]) {
				t.Fatalf("%q has the sum of %q", one[:1], one[1:])
			}
		}
	}
}

// TestNothingIsKept: a call hangs on its arguments alone, and leaves its list as it was, the spare room too.
func TestNothingIsKept(t *testing.T) {
	was := []string{"Wiki", "pedia", "spare", ""}
	l := slices.Clone(was)
	for range 2 {
		if got := Sum(l[:2]...); got != 0x11e60398 {
			t.Errorf("Sum(%q) = %08x", l[:2], got)
		}
		More(0xffffffff, "other")
		Join(0xffffffff, 0, math.MaxInt)
	}
	if !slices.Equal(l, was) {
		t.Errorf("%q became %q", was, l)
	}
}
