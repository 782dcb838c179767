package nodeset

import (
	"math"
	"math/big"
	"math/rand"
	"regexp"
	"slices"
	"strconv"
	"strings"
	"testing"
	"unsafe"

	"muster/api"
)

// set is the set of the given nodes, each a value of its own.
func set(l ...int) uint64 {
	var s uint64
	for _, n := range l {
		s += uint64(math.Exp2(float64(n)))
	}
	return s
}

// span is the list of the nodes from first to last.
func span(first, last int) []int {
	l := []int{}
	for n := first; n <= last; n++ {
		l = append(l, n)
	}
	return l
}

// membersOf tells by the chapter's words who is in a set, rising.
func membersOf(s uint64) []int {
	l := []int{}
	n := new(big.Int).SetUint64(s)
	for i := range 64 {
		if n.Bit(i) == 1 {
			l = append(l, i)
		}
	}
	return l
}

// textOf tells by the chapter's words the text of a set with these members.
func textOf(l []int) string {
	if len(l) == 0 {
		return "-"
	}
	runs := []string{}
	for len(l) > 0 {
		k := 1
		for k < len(l) && l[k] == l[k-1]+1 {
			k++
		}
		text := strconv.Itoa(l[0])
		if k > 1 {
			text += "-" + strconv.Itoa(l[k-1])
		}
		runs, l = append(runs, text), l[k:]
	}
	return strings.Join(runs, ",")
}

// far are numbers that are no node, those among them that are one again where
// a number's higher bits are lost.
func far() []int {
	l := []int{
		-1, -2, -63, -64, -65, -128, -1 << 32, -1<<32 + 5, math.MinInt32, math.MinInt32 + 5, math.MinInt, math.MinInt + 1, math.MinInt + 5,
		64, 65, 127, 128, 256, 1 << 31, 1 << 32, 1<<32 + 63, math.MaxInt32, math.MaxUint32, math.MaxInt - 63, math.MaxInt - 1, math.MaxInt,
	}
	for n := range 64 {
		l = append(l, n+64, n-64, n+256, n-256, n+1<<16, n+1<<32, n-1<<32, n+1<<62, n-1<<62, math.MinInt+n, math.MaxInt-n)
	}
	return l
}

// someSets are sets of all sorts: the empty one, the full one, each node and
// its neighbours alone, all but one, all up to one, all from one on, each
// second, runs, and some by chance, with few members and with many.
func someSets() []uint64 {
	l := []uint64{0, math.MaxUint64, 0x5555555555555555, 0xaaaaaaaaaaaaaaaa, 143, 0xf0, 1<<63 | 1, 1<<48 - 1}
	for n := range 64 {
		one := set(n)
		l = append(l, one, math.MaxUint64-one, one-1, math.MaxUint64-(one-1), one|one<<1, one|one<<2, one|one<<1|one<<3, one|1, one|1<<63)
	}
	r := rand.New(rand.NewSource(9))
	for range 500 {
		a, b, c := r.Uint64(), r.Uint64(), r.Uint64()
		l = append(l, a, a&b, a|b, a&b&c, a|b|c, a>>r.Intn(64), a<<r.Intn(64))
	}
	return l
}

// TestAll: P9.1, of all numbers near those that may be, and of numbers far beyond.
func TestAll(t *testing.T) {
	for n, want := range map[int]uint64{
		math.MinInt: 0, math.MinInt32: 0, -1 << 32: 0, -64: 0, -63: 0, -2: 0, -1: 0,
		0: 0, 1: 1, 2: 3, 3: 7, 8: 255, 31: 1<<31 - 1, 32: 1<<32 - 1, 33: 1<<33 - 1, 48: 1<<48 - 1,
		62: 1<<62 - 1, 63: 1<<63 - 1, 64: math.MaxUint64,
		65: math.MaxUint64, 66: math.MaxUint64, 100: math.MaxUint64, 128: math.MaxUint64, 256: math.MaxUint64, 257: math.MaxUint64,
		1 << 32: math.MaxUint64, 1<<32 + 1: math.MaxUint64, math.MaxInt32: math.MaxUint64, math.MaxInt: math.MaxUint64,
	} {
		if got := All(n); got != want {
			t.Errorf("All(%d) = %x, not %x", n, got, want)
		}
	}
	for n := range 65 {
		if got := All(n); !slices.Equal(membersOf(got), span(0, n-1)) {
			t.Errorf("All(%d) = %x", n, got)
		}
	}
	for _, n := range far() {
		want := uint64(0)
		if n > 0 {
			want = math.MaxUint64
		}
		if got := All(n); got != want {
			t.Errorf("All(%d) = %x, not %x", n, got, want)
		}
	}
}

// of asks Of of l for s and e.
func of(t *testing.T, s uint64, e api.Errno, l ...int) {
	t.Helper()
	if got, gotE := Of(l...); got != s || gotE != e {
		t.Errorf("Of(%v) = %x, %d, not %x, %d", l, got, int(gotE), s, int(e))
	}
}

// TestOf: P9.1, of lists of nodes, in any order.
func TestOf(t *testing.T) {
	of(t, 0, api.OK)
	of(t, 0, api.OK, []int{}...)
	of(t, 1, api.OK, 0)
	of(t, 1<<63, api.OK, 63)
	of(t, 1<<63|1, api.OK, 0, 63)
	of(t, 1<<63|1, api.OK, 63, 0)
	of(t, 143, api.OK, 0, 1, 2, 3, 7)
	of(t, 143, api.OK, 7, 3, 2, 1, 0)
	of(t, 143, api.OK, 2, 7, 0, 3, 1)
	of(t, 1<<47, api.OK, 47)
	// Beyond MaxNodes: a set may have them.
	of(t, 1<<48|1<<49|1<<62, api.OK, 62, 48, 49)
	all := span(0, 63)
	of(t, math.MaxUint64, api.OK, all...)
	slices.Reverse(all)
	of(t, math.MaxUint64, api.OK, all...)
	r := rand.New(rand.NewSource(91))
	for range 2000 {
		l := r.Perm(64)[:r.Intn(65)]
		of(t, set(l...), api.OK, l...)
	}
	for a := range 64 {
		of(t, set(a), api.OK, a)
		for b := range 64 {
			if a != b {
				of(t, set(a, b), api.OK, a, b)
			}
		}
	}
}

// TestOfNone: P9.1, of lists that are of no set: with an error the set is 0.
func TestOfNone(t *testing.T) {
	for _, n := range far() {
		of(t, 0, api.ErrSet, n)
		of(t, 0, api.ErrSet, n, 5)
		of(t, 0, api.ErrSet, 5, n)
		of(t, 0, api.ErrSet, 1, n, 2)
		of(t, 0, api.ErrSet, n, n)
		of(t, 0, api.ErrSet, append(span(0, 63), n)...)
	}
	for n := range 64 {
		of(t, 0, api.ErrSet, n, n)
		of(t, 0, api.ErrSet, n, n, n)
		of(t, 0, api.ErrSet, append(span(0, 63), n)...)
		of(t, 0, api.ErrSet, append([]int{n}, span(0, 63)...)...)
		other := (n + 7) % 64
		of(t, 0, api.ErrSet, n, other, n)
		of(t, 0, api.ErrSet, other, n, n)
		of(t, 0, api.ErrSet, n, n, other)
		of(t, 0, api.ErrSet, n, other, n, other)
	}
	of(t, 0, api.ErrSet, make([]int, 1<<20)...)
	of(t, 0, api.ErrSet, append(span(0, 63), span(0, 1<<20)...)...)
}

// counts asks List, Count and Has of a set, of which l are the members.
func counts(t *testing.T, s uint64, l []int) {
	t.Helper()
	got := List(s)
	if !slices.Equal(got, l) {
		t.Errorf("List(%x) = %v, not %v", s, got, l)
	}
	if n := Count(s); n != len(l) {
		t.Errorf("Count(%x) = %d, not %d", s, n, len(l))
	}
	for n := -3; n < 70; n++ {
		if got := Has(s, n); got != slices.Contains(l, n) {
			t.Errorf("Has(%x, %d) = %v", s, n, got)
		}
	}
}

// TestMembers: P9.2, of sets whose members are told by hand.
func TestMembers(t *testing.T) {
	for _, x := range []struct {
		s uint64
		l []int
	}{
		{0, nil},
		{1, []int{0}},
		{2, []int{1}},
		{1 << 31, []int{31}},
		{1 << 32, []int{32}},
		{1 << 47, []int{47}},
		{1 << 48, []int{48}},
		{1 << 62, []int{62}},
		{1 << 63, []int{63}},
		{3, []int{0, 1}},
		{5, []int{0, 2}},
		{143, []int{0, 1, 2, 3, 7}},
		{1<<63 | 1, []int{0, 63}},
		{7<<60 | 1, []int{0, 60, 61, 62}},
		{1<<32 - 1, span(0, 31)},
		{math.MaxUint32 << 32, span(32, 63)},
		{math.MaxInt64, span(0, 62)},
		{math.MaxUint64, span(0, 63)},
	} {
		counts(t, x.s, x.l)
	}
}

// TestAnyMembers: P9.2, of sets of all sorts.
func TestAnyMembers(t *testing.T) {
	for _, s := range someSets() {
		counts(t, s, membersOf(s))
	}
	for n := range 1 << 16 {
		s := uint64(n)
		for _, s := range []uint64{s, s << 24, s << 48} {
			if l := membersOf(s); !slices.Equal(List(s), l) || Count(s) != len(l) {
				t.Fatalf("List(%x) = %v, Count %d", s, List(s), Count(s))
			}
		}
	}
}

// TestHasNone: P9.2, of numbers that are no nodes.
func TestHasNone(t *testing.T) {
	for _, n := range far() {
		for _, s := range []uint64{0, 1, 1 << 63, 1<<63 | 1, 0xf0, math.MaxUint64} {
			if Has(s, n) {
				t.Errorf("Has(%x, %d)", s, n)
			}
		}
	}
}

// parts asks Lowest and Highest of a set: as many as l has members are its
// lowest and its highest, if ok.
func parts(t *testing.T, s uint64, n int, lowest, highest []int, ok bool) {
	t.Helper()
	if got, gotOk := Lowest(s, n); got != set(lowest...) || gotOk != ok {
		t.Errorf("Lowest(%x, %d) = %x, %v, not %v, %v", s, n, got, gotOk, lowest, ok)
	}
	if got, gotOk := Highest(s, n); got != set(highest...) || gotOk != ok {
		t.Errorf("Highest(%x, %d) = %x, %v, not %v, %v", s, n, got, gotOk, highest, ok)
	}
}

// TestParts: P9.3, of sets whose parts are told by hand.
func TestParts(t *testing.T) {
	for _, x := range []struct {
		s               uint64
		n               int
		lowest, highest []int
		ok              bool
	}{
		// The chapter's example.
		{143, 2, []int{0, 1}, []int{3, 7}, true},
		{143, -1, nil, nil, false},
		{143, 0, nil, nil, true},
		{143, 1, []int{0}, []int{7}, true},
		{143, 4, []int{0, 1, 2, 3}, []int{1, 2, 3, 7}, true},
		{143, 5, []int{0, 1, 2, 3, 7}, []int{0, 1, 2, 3, 7}, true},
		{143, 6, nil, nil, false},
		{0xf0, 3, []int{4, 5, 6}, []int{5, 6, 7}, true},
		{0xf0, 5, nil, nil, false},
		// The empty set.
		{0, -1, nil, nil, false},
		{0, 0, nil, nil, true},
		{0, 1, nil, nil, false},
		{0, 64, nil, nil, false},
		// One node.
		{1, 0, nil, nil, true},
		{1, 1, []int{0}, []int{0}, true},
		{1, 2, nil, nil, false},
		{1 << 63, 0, nil, nil, true},
		{1 << 63, 1, []int{63}, []int{63}, true},
		{1 << 63, 2, nil, nil, false},
		{1<<63 | 1, 1, []int{0}, []int{63}, true},
		// The full one.
		{math.MaxUint64, -1, nil, nil, false},
		{math.MaxUint64, 0, nil, nil, true},
		{math.MaxUint64, 1, []int{0}, []int{63}, true},
		{math.MaxUint64, 32, span(0, 31), span(32, 63), true},
		{math.MaxUint64, 63, span(0, 62), span(1, 63), true},
		{math.MaxUint64, 64, span(0, 63), span(0, 63), true},
		{math.MaxUint64, 65, nil, nil, false},
	} {
		parts(t, x.s, x.n, x.lowest, x.highest, x.ok)
	}
}

// TestAnyParts: P9.3 and P9.6, of sets of all sorts, and each number of members.
func TestAnyParts(t *testing.T) {
	for _, s := range someSets() {
		l := membersOf(s)
		for n := -2; n <= 66; n++ {
			if n < 0 || n > len(l) {
				parts(t, s, n, nil, nil, false)
				continue
			}
			parts(t, s, n, l[:n], l[len(l)-n:], true)
			parted(t, s, n)
		}
	}
	for _, n := range far() {
		for _, s := range []uint64{0, 1, 1 << 63, 0xf0, 0x5555555555555555, math.MaxInt64} {
			parts(t, s, n, nil, nil, false)
		}
	}
}

// parted asks P9.6 of a set with n members or more.
func parted(t *testing.T, s uint64, n int) {
	t.Helper()
	lowest, _ := Lowest(s, n)
	others, ok := Highest(s, Count(s)-n)
	if !ok || lowest&others != 0 || lowest|others != s || Count(lowest) != n {
		t.Errorf("of %x, %d: %x and %x, %v", s, n, lowest, others, ok)
	}
	for _, a := range List(lowest) {
		for _, b := range List(others) {
			if a >= b {
				t.Errorf("of %x, %d: %d is of the lowest, %d of the others", s, n, a, b)
			}
		}
	}
}

// texts asks Show and Parse, the one of the other's answer, too.
func texts(t *testing.T, s uint64, text string) {
	t.Helper()
	if got := Show(s); got != text {
		t.Errorf("Show(%x) = %q, not %q", s, got, text)
	}
	if got, e := Parse(text); got != s || e != api.OK {
		t.Errorf("Parse(%q) = %x, %d, not %x", text, got, int(e), s)
	}
	if got, e := Parse(Show(s)); got != s || e != api.OK {
		t.Errorf("Parse of Show(%x) = %x, %d", s, got, int(e))
	}
	if got, e := Of(List(s)...); got != s || e != api.OK {
		t.Errorf("Of of List(%x) = %x, %d", s, got, int(e))
	}
}

// TestTexts: P9.4 and P9.5, of sets whose texts are told by hand.
func TestTexts(t *testing.T) {
	for _, x := range []struct {
		text string
		l    []int
	}{
		// The chapter's example.
		{"0-3,7", []int{0, 1, 2, 3, 7}},
		// None, one.
		{"-", nil},
		{"0", []int{0}},
		{"1", []int{1}},
		{"9", []int{9}},
		{"10", []int{10}},
		{"47", []int{47}},
		{"48", []int{48}},
		{"62", []int{62}},
		{"63", []int{63}},
		// Two that follow each other: they are joined, too.
		{"0-1", []int{0, 1}},
		{"8-9", []int{8, 9}},
		{"9-10", []int{9, 10}},
		{"10-11", []int{10, 11}},
		{"62-63", []int{62, 63}},
		// Two that don't.
		{"0,2", []int{0, 2}},
		{"0,63", []int{0, 63}},
		{"9,11", []int{9, 11}},
		{"61,63", []int{61, 63}},
		// Three.
		{"0-2", []int{0, 1, 2}},
		{"61-63", []int{61, 62, 63}},
		{"0,2,4", []int{0, 2, 4}},
		{"0-1,3", []int{0, 1, 3}},
		{"0,2-3", []int{0, 2, 3}},
		{"0,60-62", []int{0, 60, 61, 62}},
		// Runs that end at 63.
		{"0-63", span(0, 63)},
		{"1-63", span(1, 63)},
		{"32-63", span(32, 63)},
		{"0,2-63", append([]int{0}, span(2, 63)...)},
		// Runs with a gap of one between.
		{"0-61,63", append(span(0, 61), 63)},
		{"0-30,32-63", append(span(0, 30), span(32, 63)...)},
		{"0-1,3-4,6-7,9-10", []int{0, 1, 3, 4, 6, 7, 9, 10}},
		{"7-8,10-11", []int{7, 8, 10, 11}},
		// The most numbers, and the longest.
		{
			"0,2,4,6,8,10,12,14,16,18,20,22,24,26,28,30,32,34,36,38,40,42,44,46,48,50,52,54,56,58,60,62",
			membersOf(0x5555555555555555),
		},
		{
			"0-1,3-4,6-7,9-10,12-13,15-16,18-19,21-22,24-25,27-28,30-31," +
				"33-34,36-37,39-40,42-43,45-46,48-49,51-52,54-55,57-58,60-61,63",
			membersOf(math.MaxUint64 - 0x4924924924924924),
		},
	} {
		texts(t, set(x.l...), x.text)
		if want := textOf(x.l); want != x.text {
			t.Errorf("the text of %v is %q, not %q", x.l, want, x.text)
		}
	}
}

// TestAnySets: P9.4 and P9.5, of sets of all sorts.
func TestAnySets(t *testing.T) {
	for _, s := range someSets() {
		texts(t, s, textOf(membersOf(s)))
	}
	for n := range 1 << 14 {
		s := uint64(n)
		for _, s := range []uint64{s, s << 5, s << 25, s << 50} {
			texts(t, s, textOf(membersOf(s)))
		}
	}
	// Two runs, of any ends.
	for a := range 64 {
		for b := a; b < 64; b++ {
			one := span(a, b)
			texts(t, set(one...), textOf(one))
			for _, gap := range []int{1, 2, 9} {
				for _, more := range []int{0, 1, 2, 20} {
					first, last := b+1+gap, b+1+gap+more
					if last < 64 {
						two := append(span(a, b), span(first, last)...)
						texts(t, set(two...), textOf(two))
					}
				}
			}
		}
	}
}

// form is what the text of a set with members is made of.
var form = regexp.MustCompile(`\A(?:0|[1-9][0-9]?)(?:-[1-9][0-9]?)?(?:,[1-9][0-9]?(?:-[1-9][0-9]?)?)*\z`)

// told tells what Parse has to, by the chapter's words.
func told(text string) (uint64, api.Errno) {
	if text == "-" {
		return 0, api.OK
	}
	if !form.MatchString(text) {
		return 0, api.ErrSet
	}
	s, last := uint64(0), -2
	for _, run := range strings.Split(text, ",") {
		ends := []int{}
		for _, n := range strings.Split(run, "-") {
			i, err := strconv.Atoi(n)
			if err != nil {
				panic(err)
			}
			ends = append(ends, i)
		}
		// Behind the last one is a gap, and one alone has no - .
		first := ends[0]
		if first <= last+1 || len(ends) > 1 && ends[1] <= first || ends[len(ends)-1] > 63 {
			return 0, api.ErrSet
		}
		last = ends[len(ends)-1]
		s |= set(span(first, last)...)
	}
	return s, api.OK
}

// holds asks P9.4 and P9.5 of a text.
func holds(t *testing.T, text string) {
	t.Helper()
	want, wantE := told(text)
	s, e := Parse(text)
	if s != want || e != wantE {
		t.Errorf("Parse(%q) = %x, %d, not %x, %d", text, s, int(e), want, int(wantE))
	}
	if back := Show(s); e == api.OK && back != text {
		t.Errorf("Show of Parse(%q) = %q", text, back)
	}
}

// none asks Parse of texts that are no set's.
func none(t *testing.T, l ...string) {
	t.Helper()
	for _, text := range l {
		if s, e := Parse(text); s != 0 || e != api.ErrSet {
			t.Errorf("Parse(%q) = %x, %d", text, s, int(e))
		}
		if _, e := told(text); e != api.ErrSet {
			t.Errorf("%q is a set's text", text)
		}
	}
}

// TestNoTexts: P9.4, of texts that are no set's.
func TestNoTexts(t *testing.T) {
	// No text, and - where it does not stand for a run.
	none(t, "", "--", "---", "-,-", "-,", ",-", "0,-", "-,0", "-0", "-1", "-63", "0-", "1-", "63-", "0--1", "0-1-", "-0-1", "0-3-5",
		"0-1-2", "0-0-1", "1,-", "1-,3", "1,-3", "1,3-", "-1,3", "-5-7", "0-,2", "0,2-", "5--7", "-0,2", "0,-2", "0-3,-7", "0-3-,7")
	// Commas.
	none(t, ",", ",,", ",,,", "0,", ",0", "0,,2", ",0,2", "0,2,", "0-3,", ",0-3", "0-3,,7", "0,2,,4", ",0,2,", "0-,", ",63", "63,", "0;2",
		"0.2", "0..3", "0:3", "0/2", "0+2", "0_3", "0–3", "0—3", "0−3")
	// Numbers that fall, and that stand twice.
	none(t, "2,1", "2,0", "63,0", "10,9", "7,0-3", "3,2-5", "5-7,0", "5-7,0-3", "0,4,2", "0,10,2", "3-1", "63-0", "10-9", "5-4", "1-0",
		"0,0", "1,1", "63,63", "0-3,3", "0-3,2", "0-3,0", "0-3,1-2", "0-3,0-3", "0-3,3-5", "0-3,2-5", "1,0-3", "0,0-3", "3,0-3", "0,2,2",
		"0-63,63", "0-63,0-63", "0-63,0", "2-5,1-7", "0,2,0", "0,2-4,3", "1-3,2")
	// Numbers that touch without being joined.
	none(t, "0,1", "0,1,2", "1,2", "62,63", "0-1,2", "0,1-2", "0-1,2-3", "0-62,63", "0,1-63", "0-31,32-63", "5,6,8", "5,7,8", "0-3,4,7",
		"9,10", "9-10,11", "8-9,10-11", "3-3", "0-0", "63-63", "3-3,5", "1,3-3", "0-3,7-7")
	// A 0 ahead, and more than two digits.
	none(t, "00", "01", "000", "007", "063", "00-3", "0-03", "0-3,07", "00,2", "0,02", "0-01", "01-2", "001", "0000000000000000000005",
		"0-3,007", "010", "0x3", "0b1", "0o7", "1e1", "1_0", "100", "101", "163", "256", "319", "640", "999", "0-100", "0,100", "100-101",
		"1000", "063-64")
	// 64 and beyond, those that are within 64 again where higher bits are lost, too.
	none(t, "64", "65", "0-64", "63-64", "64-65", "0,64", "0,2,64", "0-3,64", "62-64", "70", "99", "0-99", "64-0", "127", "128", "256",
		"4294967296", "4294967299", "9223372036854775807", "9223372036854775808", "18446744073709551615", "18446744073709551616",
		"18446744073709551619", "0-18446744073709551616", "0-18446744073709551619", "0-9223372036854775807", "-9223372036854775808",
		"340282366920938463463374607431768211456", "340282366920938463463374607431768211459", "0-4294967299", "0-259", "259")
	// Signs, blanks, capitals, letters.
	none(t, "+0", "+1", "0-+3", "+0-3", "0,+2", "0+", "=0", "0=", "*", "0*", "~", "!0", "(0)", "[0-3]", "{0}", `"0"`, "#3", "%", "0-3;7",
		" ", " 0", "0 ", "0 -3", "0- 3", "0, 2", "0 ,2", " -", "- ", "\t0", "0\t", "0\n", "\n0", "0\r\n", "0-3,7\n", "0-3,7 ", " 0-3,7",
		"0 2", "0\x00", "\x000", "0\x00,2", "a", "A", "x", "0a", "a0", "0-a", "0,a", "n0", "n0-3", "all", "none", "0d", "0s", "3h", "inf", "NaN")
	// Runes of more than one byte, digits of other scripts, bytes that are no UTF-8.
	none(t, "é", "0é", "é0", "0-é", "中", "0,中", "０", "３", "1０", "٣", "٠-٣", "²", "1²", "½", "𝟏", "0\u0301", "0\u200b", "\ufeff0", "0\u00a0",
		"0，2", "0－3", "\u20110", "0\u20103", "\xff", "0\xff", "\xff0", "0-\xff3", "0\x80", "0,\xc0\xb0", "\xb0", "0\xad3", "\xed\xa0\x80",
		"\ufffd", "0-3\ufffd")
}

// TestEachNumber: P9.4, of all numbers up to 1000, alone and as one end of a run.
func TestEachNumber(t *testing.T) {
	for n := range 1001 {
		text := strconv.Itoa(n)
		for _, text := range []string{text, "0" + text, "00" + text, "-" + text, "+" + text, " " + text, text + " ", text + "0", text + ","} {
			holds(t, text)
			for _, m := range []string{"0", "5", "62", "63", "64"} {
				holds(t, text+"-"+m)
				holds(t, m+"-"+text)
				holds(t, text+","+m)
				holds(t, m+","+text)
				holds(t, "0-3,"+text+"-"+m)
			}
		}
	}
	for a := range 70 {
		for b := range 70 {
			one, other := strconv.Itoa(a), strconv.Itoa(b)
			for _, text := range []string{one + "-" + other, one + "," + other, "0-3," + one + "-" + other, one + "," + other + "-63"} {
				holds(t, text)
			}
			holds(t, "1-"+one+","+other+"-62")
			holds(t, one+"-"+other+","+other+"-"+one)
		}
	}
}

// TestEachByte: P9.4, of texts of sets with one byte more, with one byte less
// and with another byte, at each place.
func TestEachByte(t *testing.T) {
	for _, text := range []string{
		"-", "0", "5", "10", "63", "0-1", "0,2", "0-3,7", "9-10,12", "0-63", "62-63", "0,60-62", "1,3,5-7,9,11-19,21", "0-1,3-4,6-7,9-10",
	} {
		if _, e := told(text); e != api.OK {
			t.Errorf("%q is no set's text", text)
		}
		for i := range len(text) + 1 {
			for b := range 256 {
				holds(t, text[:i]+string([]byte{byte(b)})+text[i:])
				if i < len(text) {
					holds(t, text[:i]+string([]byte{byte(b)})+text[i+1:])
				}
			}
			if i < len(text) {
				holds(t, text[:i]+text[i+1:])
			}
			holds(t, text[:i])
			holds(t, text[i:])
		}
	}
}

// TestShortTexts: P9.4 and P9.5, of all short texts of some bytes.
func TestShortTexts(t *testing.T) {
	const bytes = "01236,- +"
	var all func(text string, more int)
	all = func(text string, more int) {
		holds(t, text)
		if more == 0 {
			return
		}
		for i := range len(bytes) {
			all(text+bytes[i:i+1], more-1)
		}
	}
	all("", 5)
}

// TestAnyTexts: P9.4 and P9.5, of texts that are made by chance of numbers,
// most of them rising, and of what stands between them.
func TestAnyTexts(t *testing.T) {
	r := rand.New(rand.NewSource(94))
	between := []string{",", ",", ",", ",", ",", ",", "-", "-", "-", "-", "", " ", ",,", "--", "-,", "é", "\xff", "+", "0"}
	for range 100000 {
		n := r.Intn(4)
		text := strconv.Itoa(n)
		for n < 70 && r.Intn(8) > 0 {
			n += 1 + r.Intn(6)
			if r.Intn(30) == 0 {
				n = r.Intn(70)
			}
			text += between[r.Intn(10+r.Intn(len(between)-9))] + strconv.Itoa(n)
		}
		holds(t, text)
	}
}

// TestLongTexts: P9.4, of texts that are long: none is a set's.
func TestLongTexts(t *testing.T) {
	const many = 1 << 20
	for _, text := range []string{
		strings.Repeat("0", many), strings.Repeat("1", many), strings.Repeat("-", many), strings.Repeat(",", many), strings.Repeat(" ", many),
		strings.Repeat("0,", many), strings.Repeat("0,", many) + "2", strings.Repeat("0-", many), strings.Repeat("0-", many) + "3",
		strings.Repeat("0-63,", many) + "0-63", strings.Repeat("0,2,", many) + "4", strings.Repeat("é", many), strings.Repeat("\xff", many),
		"0-" + strings.Repeat("9", many), "0," + strings.Repeat("9", many), strings.Repeat("0", many) + "5", strings.Repeat("-,", many),
		"0-3,7" + strings.Repeat(" ", many), strings.Repeat(" ", many) + "0-3,7", "0-3,7" + strings.Repeat(",", many),
		"0-3,7" + strings.Repeat(",7", many), "-" + strings.Repeat("\x00", many), strings.Repeat("+", many) + "1",
	} {
		if s, e := Parse(text); s != 0 || e != api.ErrSet {
			t.Errorf("Parse of %d bytes, %q ..: %x, %d", len(text), text[:10], s, int(e))
		}
	}
}

// TestHandedIn: what is handed in is not changed, its spare room neither.
func TestHandedIn(t *testing.T) {
	for _, l := range [][]int{
		{3, 1, 2, 63, 0, 7, 7, 9, -1}, {5, 5, 5, 5, 5, 5, 5, 5, 5}, {-1, 64, 3, 2, 1, 0, 64, 64, 64}, {9, 8, 7, 6, 5, 4, 3, 2, 1},
	} {
		before := slices.Clone(l)
		for n := range len(l) + 1 {
			first, firstE := Of(l[:n]...)
			again, againE := Of(l[:n]...)
			if !slices.Equal(l, before) || first != again || firstE != againE {
				t.Errorf("Of of %v of %v: it is %v now", before[:n], before, l)
			}
		}
	}
}

// TestNewMemory: what is handed out is new: no other call tells that it was changed.
func TestNewMemory(t *testing.T) {
	for _, s := range someSets() {
		want := membersOf(s)
		one, other := List(s), List(s)
		for _, l := range [][]int{one, one[:cap(one)]} {
			for i := range l {
				l[i] = -7
			}
		}
		if !slices.Equal(other, want) || !slices.Equal(List(s), want) {
			t.Errorf("List(%x) is changed by a change of another answer", s)
		}
	}
	handed := []int{3, 1, 2}
	s, _ := Of(handed...)
	handed[0] = 9
	if s != 14 || !slices.Equal(List(s), []int{1, 2, 3}) {
		t.Errorf("Of keeps its list: %x", s)
	}
}

// TestNewTexts: a text that is handed out shares no memory with another one,
// and one that was handed in is not kept.
func TestNewTexts(t *testing.T) {
	at := func(text string) *byte { return unsafe.StringData(text) }
	for _, s := range []uint64{1, 1 << 63, 143, 1<<63 | 1<<10, math.MaxUint64, 0x5555555555555555} {
		one, other := Show(s), Show(s)
		if one != other || at(one) == at(other) {
			t.Errorf("two answers of Show(%x), %q and %q, share their memory", s, one, other)
		}
		b := []byte(one)
		read, e := Parse(unsafe.String(&b[0], len(b)))
		shown := Show(read)
		for i := range b {
			b[i] = 'x'
		}
		if read != s || e != api.OK || shown != other {
			t.Errorf("Parse(%q) = %x, %d: %q", other, read, int(e), shown)
		}
	}
}

// TestNothingIsKept: a call hangs on its arguments alone.
func TestNothingIsKept(t *testing.T) {
	for range 3 {
		of(t, 0, api.ErrSet, 1, 1)
		of(t, 143, api.OK, 7, 3, 2, 1, 0)
		of(t, 0, api.ErrSet, 64)
		of(t, 0, api.OK)
		counts(t, 143, []int{0, 1, 2, 3, 7})
		counts(t, 0, nil)
		parts(t, 143, 2, []int{0, 1}, []int{3, 7}, true)
		parts(t, 143, 6, nil, nil, false)
		texts(t, 143, "0-3,7")
		none(t, "0,1", "")
		texts(t, 0, "-")
	}
}
