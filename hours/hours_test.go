package hours

import (
	"math"
	"math/big"
	"math/rand"
	"regexp"
	"strconv"
	"strings"
	"testing"
	"unsafe"

	"muster/api"
)

// parses asks Parse of s for n and e, and Normal for normal and e.
func parses(t *testing.T, s string, n int, normal string, e api.Errno) {
	t.Helper()
	if gotN, gotE := Parse(s); gotN != n || gotE != e {
		t.Errorf("Parse(%q) = %d, %d, not %d, %d", s, gotN, int(gotE), n, int(e))
	}
	if got, gotE := Normal(s); got != normal || gotE != e {
		t.Errorf("Normal(%q) = %q, %d, not %q, %d", s, got, int(gotE), normal, int(e))
	}
}

// shows asks Show of n for s and e.
func shows(t *testing.T, n int, s string, e api.Errno) {
	t.Helper()
	if got, gotE := Show(n); got != s || gotE != e {
		t.Errorf("Show(%d) = %q, %d, not %q, %d", n, got, int(gotE), s, int(e))
	}
}

// TestTimes: P6.1 and P6.3, of texts of times that are told by hand.
func TestTimes(t *testing.T) {
	for _, x := range []struct {
		s      string
		n      int
		normal string
	}{
		// The chapter's examples.
		{"1h30m", 5400, "1h30m"},
		{"90m", 5400, "1h30m"},
		// One count.
		{"1d", 86400, "1d"},
		{"1h", 3600, "1h"},
		{"1m", 60, "1m"},
		{"1s", 1, "1s"},
		{"7d", 604800, "7d"},
		{"23h", 82800, "23h"},
		{"24h", 86400, "1d"},
		{"25h", 90000, "1d1h"},
		{"59m", 3540, "59m"},
		{"60m", 3600, "1h"},
		{"61m", 3660, "1h1m"},
		{"59s", 59, "59s"},
		{"60s", 60, "1m"},
		{"61s", 61, "1m1s"},
		{"100s", 100, "1m40s"},
		{"123456s", 123456, "1d10h17m36s"},
		// Two.
		{"1d1h", 90000, "1d1h"},
		{"1d1m", 86460, "1d1m"},
		{"1d1s", 86401, "1d1s"},
		{"1h1m", 3660, "1h1m"},
		{"1h1s", 3601, "1h1s"},
		{"1m1s", 61, "1m1s"},
		{"1d24h", 172800, "2d"},
		{"1h120m", 10800, "3h"},
		{"2m3600s", 3720, "1h2m"},
		// Three.
		{"1d2h3m", 93780, "1d2h3m"},
		{"1d2h3s", 93603, "1d2h3s"},
		{"1d2m3s", 86523, "1d2m3s"},
		{"1h2m3s", 3723, "1h2m3s"},
		{"1h59m60s", 7200, "2h"},
		// Four.
		{"1d1h1m1s", 90061, "1d1h1m1s"},
		{"2d3h4m5s", 183845, "2d3h4m5s"},
		{"10d20h30m40s", 937840, "10d20h30m40s"},
		{"1d23h59m60s", 172800, "2d"},
		// 0 as a count.
		{"0d", 0, "0s"},
		{"0h", 0, "0s"},
		{"0m", 0, "0s"},
		{"0s", 0, "0s"},
		{"0d0h0m0s", 0, "0s"},
		{"0h0s", 0, "0s"},
		{"0d1h", 3600, "1h"},
		{"1d0h", 86400, "1d"},
		{"0d0h5m", 300, "5m"},
		{"0d120s", 120, "2m"},
		{"1d0h0m1s", 86401, "1d1s"},
		{"0d0h0m1s", 1, "1s"},
		// Seven digits: the greatest count that is no error.
		{"1000000s", 1000000, "11d13h46m40s"},
		// Up to MaxTime, by each unit alone ..
		{"11d", 950400, "11d"},
		{"277h", 997200, "11d13h"},
		{"16666m", 999960, "11d13h46m"},
		{"999999s", 999999, "11d13h46m39s"},
		// .. and by several, which are MaxTime together.
		{"11d49600s", 1000000, "11d13h46m40s"},
		{"11d13h46m40s", 1000000, "11d13h46m40s"},
		{"277h2800s", 1000000, "11d13h46m40s"},
		{"277h46m40s", 1000000, "11d13h46m40s"},
		{"16666m40s", 1000000, "11d13h46m40s"},
		{"10d37h46m40s", 1000000, "11d13h46m40s"},
		{"0d0h0m1000000s", 1000000, "11d13h46m40s"},
		{"11d13h0m2800s", 1000000, "11d13h46m40s"},
		{"1d1h1m909940s", 1000000, "11d13h46m40s"},
	} {
		parses(t, x.s, x.n, x.normal, api.OK)
	}
}

// TestTooMuch: P6.1 and P6.3, of texts of times that are more than MaxTime.
func TestTooMuch(t *testing.T) {
	for _, s := range []string{
		// By each unit alone.
		"12d", "278h", "16667m", "1000001s",
		// By several, of which none alone is too much: one more than MaxTime.
		"11d49601s", "11d13h46m41s", "277h2801s", "16666m41s", "11d13h47m", "11d14h",
		"10d37h46m41s", "1d1h1m909941s", "0d0h0m1000001s", "1m1000000s", "1h1000000s", "1d1000000s",
		"1d0h0m1000000s", "11d0h0m1000000s", "10d277h16666m1000000s",
		// The greatest counts: each, and all together.
		"9999999d", "9999999h", "9999999m", "9999999s",
		"9999999d9999999h9999999m9999999s", "9999999d0s", "0d9999999h0m", "9999999d1s",
		// Beyond 2^31 and 2^32, where numbers of 32 bits would begin anew.
		"24855d11648s", "24856d", "49710d23296s", "49711d", "596523h848s", "1193046h1696s",
	} {
		parses(t, s, 0, "", api.ErrTime)
	}
}

// TestNoTimes: P6.1 and P6.3, of texts that are no texts of times.
func TestNoTimes(t *testing.T) {
	for _, s := range []string{
		"",
		// A count without a unit.
		"0", "5", "12", "1000000", "9999999", "1h5", "1d1h1m1", "1h0", "0s0", "5400 ",
		// A unit without a count.
		"d", "h", "m", "s", "dh", "dhms", "hm", "h1", "d1h", "s1s", "1hm", "1dh1m", "1h30ms", "1d2h3m4ss", "1dd", "1ss",
		// A unit twice.
		"1d1d", "1h1h", "1m1m", "1s1s", "1d2h1d", "1d2h1h", "1h2m1h", "0s0s", "0d0d", "1d1h1m1s1s", "1d1h1m1s1d",
		// Units in another order.
		"1h1d", "1m1d", "1s1d", "1m1h", "1s1h", "1s1m", "30m1h", "1d1m1h", "1s0m", "0s0m0h0d", "1h1d1m", "1d1h1s1m",
		// Eight digits, and more.
		"12345678d", "12345678h", "12345678m", "12345678s", "10000000s", "1d10000000s", "10000000d1s", "99999999s",
		"123456789s", "1234567890s", "9223372036854775807s", "9223372036854775808s", "18446744073709551616s",
		"18446744073709551617s", "99999999999999999999999999999999s",
		// A 0 ahead of other digits.
		"00s", "01s", "00d", "01d", "01h", "01m", "007s", "0000001s", "00000001s", "1h05m", "1h00m", "00h1m", "1d01s",
		"0000000s", "00000000s", "0123456s", "01000000s",
		// Another unit.
		"1x", "1w", "1y", "1a", "1e", "1c", "1g", "1i", "1l", "1n", "1r", "1t", "1ms", "1us", "1e3s", "0x1s", "1_0s",
		"1.5h", "1,5h", "1:30", "1:30m", "1'000s", "1/2h", "1d,1h",
		// A blank ahead, between, behind.
		" 1h", "1h ", "1 h", "1h 30m", "\t1h", "1h\t", "1h\n", "\n1h", "1h\r\n", " ", "\x0b1h", "1h\x00", "\x001h", "1h\x0030m",
		"1h\u00a030m", "1h\u2003",
		// A sign.
		"-1h", "+1h", "1-h", "1h-30m", "1h+30m", "-0s", "+0s", "1h-", "=1h", "1h=", "-", "+", `"1h"`, "1h,",
		// A capital.
		"1D", "1H", "1M", "1S", "1H30M", "1h30M", "1D1h",
		// Another Letter, a digit of another script, letters like the units.
		"1é", "é1h", "1hé", "1h中30m", "中", "１h", "1０s", "٣h", "1h٣m", "1ｈ", "1ｓ", "1ſ", "1ħ", "²h", "1½h", "𝟏h",
		"1\u0301h", "1h\u0301", "1h\u200b",
		// Bytes that are no UTF-8.
		"\xff", "1\xff", "1\xffh", "1h\xff", "\xff1h", "1h\x8030m", "1h30\xe4m", "1\xe8", "1\xf3s", "\xb1h", "1\xed\xa0\x80h",
		// None, though the counts would be too much.
		"12d ", "12d1", "12dx", "12d1d", "1h12d", "12d12", "1000001s1m", "1000001s1", "9999999d9999999", "9999999d9999999x",
		"9999999d01s", "12d12345678s", "9999999s9999999s", " 12d", "12d\xff", "9999999d9999999h9999999m9999999",
		"9999999d9999999h9999999m9999999s0", "9999999d9999999h9999999m9999999s1s", "99999999d",
	} {
		parses(t, s, 0, "", api.ErrHours)
	}
}

// TestEachByte: P6.1, of a text of a time with one byte more at each place,
// and with another one there.
func TestEachByte(t *testing.T) {
	for _, s := range []string{"1s", "0s", "1d2h3m4s", "1h30m", "1000000s", "12d", "10d20h"} {
		for i := range len(s) + 1 {
			for b := range 256 {
				holds(t, s[:i]+string([]byte{byte(b)})+s[i:])
				if i < len(s) {
					holds(t, s[:i]+string([]byte{byte(b)})+s[i+1:])
				}
			}
			holds(t, s[:i])
			holds(t, s[i:])
		}
	}
}

// form is the text of a time, by the chapter's words, but that it may have no count.
var form = regexp.MustCompile(`\A(?:(0|[1-9][0-9]{0,6})d)?(?:(0|[1-9][0-9]{0,6})h)?(?:(0|[1-9][0-9]{0,6})m)?(?:(0|[1-9][0-9]{0,6})s)?\z`)

// told tells what Parse has to, by the chapter's words.
func told(s string) (int, api.Errno) {
	counts := form.FindStringSubmatch(s)
	if counts == nil || s == "" {
		return 0, api.ErrHours
	}
	sum := new(big.Int)
	for i, ticks := range []int64{86400, 3600, 60, 1} {
		n, ok := new(big.Int).SetString("0"+counts[i+1], 10)
		if !ok {
			panic(counts[i+1])
		}
		sum.Add(sum, n.Mul(n, big.NewInt(ticks)))
	}
	if sum.Cmp(big.NewInt(1000000)) > 0 {
		return 0, api.ErrTime
	}
	return int(sum.Int64()), api.OK
}

// holds asks whether P6.1 to P6.5 hold of a text.
func holds(t *testing.T, s string) {
	t.Helper()
	n, e := told(s)
	normal := ""
	if e == api.OK {
		normal, _ = Show(n)
	}
	parses(t, s, n, normal, e)
	if e != api.OK {
		return
	}
	if back, e := Parse(normal); back != n || e != api.OK {
		t.Errorf("Parse(Normal(%q)) = %d, %d, not %d", s, back, int(e), n)
	}
	if again, e := Normal(normal); again != normal || e != api.OK {
		t.Errorf("Normal(%q) = %q, %d", normal, again, int(e))
	}
}

// TestShortTexts: P6.1 to P6.5, of all short texts of some bytes.
func TestShortTexts(t *testing.T) {
	const bytes = "019dhms x"
	var all func(s string, more int)
	all = func(s string, more int) {
		holds(t, s)
		if more == 0 {
			return
		}
		for i := range len(bytes) {
			all(s+bytes[i:i+1], more-1)
		}
	}
	all("", 5)
}

// TestEachOrder: P6.1, of each way to choose up to five units, in any order
// and each as often as it comes.
func TestEachOrder(t *testing.T) {
	const signs = "dhms"
	var all func(s string, more int)
	all = func(s string, more int) {
		holds(t, s)
		if more == 0 {
			return
		}
		for i := range len(signs) {
			for _, n := range []string{"0", "1", "12", "9999999"} {
				all(s+n+signs[i:i+1], more-1)
			}
		}
	}
	all("", 4)
	for _, a := range signs {
		for _, b := range signs {
			holds(t, "1"+string(a)+"1d1h1m1s")
			holds(t, "1d1h1m1s1"+string(a))
			holds(t, "1d1"+string(a)+"1m1"+string(b)+"1s")
		}
	}
}

// TestAnyTexts: P6.1 to P6.5, of texts made of pieces by chance.
func TestAnyTexts(t *testing.T) {
	r := rand.New(rand.NewSource(6))
	count := func() string {
		return strconv.Itoa(r.Intn([]int{1, 2, 10, 100, 3000, 20000, 1000000, 10000000, 100000000}[r.Intn(9)]))
	}
	odd := []string{"", "", "", "", "", "", "", "", "", "", "", "", "0", "00", " ", "x", "D", "\xff", "é", "s", "d", "-", "1"}
	for range 100000 {
		s := ""
		for _, u := range "dhms" {
			if r.Intn(2) == 0 {
				s += count() + string(u)
			}
		}
		at := r.Intn(len(s) + 1)
		holds(t, s[:at]+odd[r.Intn(len(odd))]+s[at:])
	}
}

// TestEachUnitsEnd: P6.1, of each count of each unit up to some beyond MaxTime,
// with one tick more and one less than fits beside it.
func TestEachUnitsEnd(t *testing.T) {
	for _, u := range []struct {
		sign  string
		ticks int
	}{{"d", 86400}, {"h", 3600}, {"m", 60}} {
		for n := 0; n*u.ticks <= 1000000; n++ {
			rest := 1000000 - n*u.ticks
			s := strconv.Itoa(n) + u.sign
			parses(t, s+strconv.Itoa(rest)+"s", 1000000, "11d13h46m40s", api.OK)
			parses(t, s+strconv.Itoa(rest+1)+"s", 0, "", api.ErrTime)
			if got, e := Parse(s); got != n*u.ticks || e != api.OK {
				t.Errorf("Parse(%q) = %d, %d", s, got, int(e))
			}
		}
		for n := 1000000/u.ticks + 1; n < 10000000; n += 1 + n/7 {
			parses(t, strconv.Itoa(n)+u.sign, 0, "", api.ErrTime)
		}
	}
	for n := 999990; n <= 1000000; n++ {
		if got, e := Parse(strconv.Itoa(n) + "s"); got != n || e != api.OK {
			t.Errorf("Parse of %d s = %d, %d", n, got, int(e))
		}
		parses(t, strconv.Itoa(n+11)+"s", 0, "", api.ErrTime)
	}
}

// TestLongTexts: P6.1, of texts that are long: none is a time's.
func TestLongTexts(t *testing.T) {
	const many = 1 << 20
	for _, s := range []string{
		strings.Repeat("1", many), strings.Repeat("0", many), strings.Repeat("1", many) + "s", strings.Repeat("0", many) + "1s",
		strings.Repeat("1s", many), strings.Repeat("1d1h1m1s", many), strings.Repeat("s", many), strings.Repeat(" ", many),
		"1d" + strings.Repeat("9", many) + "s", "1s" + strings.Repeat("\xff", many), strings.Repeat("é", many),
	} {
		if n, e := Parse(s); n != 0 || e != api.ErrHours {
			t.Errorf("Parse of %d bytes, %q ..: %d, %d", len(s), s[:10], n, int(e))
		}
		if got, e := Normal(s); got != "" || e != api.ErrHours {
			t.Errorf("Normal of %d bytes, %q ..: %q, %d", len(s), s[:10], got, int(e))
		}
	}
}

// TestShow: P6.2, of numbers that are told by hand.
func TestShow(t *testing.T) {
	for _, x := range []struct {
		n int
		s string
	}{
		{0, "0s"},
		{1, "1s"},
		{2, "2s"},
		{9, "9s"},
		{10, "10s"},
		// Each unit less one, the unit, and one more.
		{59, "59s"},
		{60, "1m"},
		{61, "1m1s"},
		{119, "1m59s"},
		{120, "2m"},
		{600, "10m"},
		{3599, "59m59s"},
		{3600, "1h"},
		{3601, "1h1s"},
		{3660, "1h1m"},
		{3661, "1h1m1s"},
		{5400, "1h30m"},
		{7199, "1h59m59s"},
		{36000, "10h"},
		{86399, "23h59m59s"},
		{86400, "1d"},
		{86401, "1d1s"},
		{86460, "1d1m"},
		{86461, "1d1m1s"},
		{90000, "1d1h"},
		{90001, "1d1h1s"},
		{90060, "1d1h1m"},
		{90061, "1d1h1m1s"},
		{172799, "1d23h59m59s"},
		{172800, "2d"},
		{863999, "9d23h59m59s"},
		{864000, "10d"},
		{950400, "11d"},
		{999999, "11d13h46m39s"},
		{1000000, "11d13h46m40s"},
	} {
		shows(t, x.n, x.s, api.OK)
	}
	for _, n := range []int{
		-1, -2, -60, -86400, -1000000, -1000001, math.MinInt32, math.MinInt32 - 1, math.MinInt + 1, math.MinInt,
		1000001, 1000002, 1036800, 2000000, math.MaxInt32, math.MaxInt32 + 1, math.MaxUint32, 1 << 32, 1<<32 + 60,
		api.MaxUsage, api.MaxUsage + 1, math.MaxInt - 1, math.MaxInt,
	} {
		shows(t, n, "", api.ErrTime)
	}
}

// TestEachTime: P6.2, P6.4 and P6.5, of all times, counted on second by second.
func TestEachTime(t *testing.T) {
	var c [4]int
	for n := range 1000001 {
		want := ""
		for i, u := range "dhms" {
			if c[i] > 0 {
				want += strconv.Itoa(c[i]) + string(u)
			}
		}
		if n == 0 {
			want = "0s"
		}
		s, e := Show(n)
		if s != want || e != api.OK {
			t.Fatalf("Show(%d) = %q, %d, not %q", n, s, int(e), want)
		}
		if back, e := Parse(s); back != n || e != api.OK {
			t.Fatalf("Parse(%q) = %d, %d, not %d", s, back, int(e), n)
		}
		if again, e := Normal(s); again != s || e != api.OK {
			t.Fatalf("Normal(%q) = %q, %d", s, again, int(e))
		}
		c[3]++
		carry(&c)
	}
}

// carry makes 60 s one m, 60 m one h, and 24 h one d.
func carry(c *[4]int) {
	if c[3] == 60 {
		c[3], c[2] = 0, c[2]+1
	}
	if c[2] == 60 {
		c[2], c[1] = 0, c[1]+1
	}
	if c[1] == 24 {
		c[1], c[0] = 0, c[0]+1
	}
}

// TestOneNormal: P6.5, of texts of one time: they have one Normal, which is
// that of no other time.
func TestOneNormal(t *testing.T) {
	for _, l := range [][]string{
		{"0s", "0m", "0h", "0d", "0d0h0m0s", "0h0s"},
		{"5400s", "90m", "1h30m", "0d1h30m0s", "1h1800s", "30m3600s", "0h90m"},
		{"86400s", "1440m", "24h", "1d", "23h60m", "23h59m60s", "23h3600s", "0d86400s", "1d0s"},
		{"1000000s", "11d13h46m40s", "277h46m40s", "16666m40s", "11d49600s"},
	} {
		want, e := Normal(l[0])
		if e != api.OK {
			t.Errorf("Normal(%q): %d", l[0], int(e))
		}
		for _, s := range l {
			if got, e := Normal(s); got != want || e != api.OK {
				t.Errorf("Normal(%q) = %q, %d, not %q", s, got, int(e), want)
			}
		}
	}
	r := rand.New(rand.NewSource(65))
	times := map[string]int{}
	for range 50000 {
		d, h, m, s := r.Intn(3), r.Intn(50), r.Intn(100), r.Intn(200)
		text := strconv.Itoa(d) + "d" + strconv.Itoa(h) + "h" + strconv.Itoa(m) + "m" + strconv.Itoa(s) + "s"
		n := d*86400 + h*3600 + m*60 + s
		normal, e := Normal(text)
		if e != api.OK {
			t.Fatalf("Normal(%q): %d", text, int(e))
		}
		if other, ok := times[normal]; ok && other != n {
			t.Fatalf("%q is the Normal of %d and of %d", normal, other, n)
		}
		times[normal] = n
		if of, _ := Show(n); of != normal {
			t.Fatalf("Normal(%q) = %q, not %q", text, normal, of)
		}
	}
}

// shares tells whether two texts have a byte of memory in common.
func shares(s, other string) bool {
	if len(s) == 0 || len(other) == 0 {
		return false
	}
	at := uintptr(unsafe.Pointer(unsafe.StringData(s)))
	from := uintptr(unsafe.Pointer(unsafe.StringData(other)))
	return at < from+uintptr(len(other)) && from < at+uintptr(len(s))
}

// TestNewMemory: what is handed out is new, a text that is normal already, too.
func TestNewMemory(t *testing.T) {
	for _, s := range []string{"1d2h3m4s", "1h30m", "90m", "10s"} {
		s = strings.Clone(s)
		if got, e := Normal(s); shares(got, s) || e != api.OK {
			t.Errorf("Normal(%q), %d: it shares its memory", s, int(e))
		}
	}
	a, _ := Show(93784)
	b, _ := Show(93784)
	if a != b || shares(a, b) {
		t.Errorf("two answers, %q and %q, share their memory", a, b)
	}
}

// TestNothingIsKept: a call hangs on its arguments alone.
func TestNothingIsKept(t *testing.T) {
	for range 3 {
		parses(t, "12d", 0, "", api.ErrTime)
		parses(t, "1h30m", 5400, "1h30m", api.OK)
		parses(t, "1h30", 0, "", api.ErrHours)
		parses(t, "0s", 0, "0s", api.OK)
		parses(t, "", 0, "", api.ErrHours)
		shows(t, -1, "", api.ErrTime)
		shows(t, 61, "1m1s", api.OK)
		shows(t, 0, "0s", api.OK)
	}
}
