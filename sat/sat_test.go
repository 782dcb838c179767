package sat

import (
	"math"
	"math/big"
	"math/rand"
	"slices"
	"testing"

	"muster/api"
)

// edges are the numbers at which the promises turn, and some between.
var edges = []int{
	math.MinInt, math.MinInt + 1, math.MinInt / 2, -api.MaxUsage - 1, -api.MaxUsage, -api.MaxTime - 1, -api.MaxTime, -2, -1,
	0, 1, 2, 3, 7, 999, 1000, 1001,
	api.MaxTime/2 - 1, api.MaxTime / 2, api.MaxTime/2 + 1, api.MaxTime - 1, api.MaxTime, api.MaxTime + 1, 2 * api.MaxTime,
	api.MaxUsage/2 - 1, api.MaxUsage / 2, api.MaxUsage/2 + 1, api.MaxUsage - 1, api.MaxUsage, api.MaxUsage + 1, 2 * api.MaxUsage,
	math.MaxInt32, math.MaxInt32 + 1, math.MaxUint32, math.MaxUint32 + 1, math.MaxInt / 2, math.MaxInt - 1, math.MaxInt,
}

// held tells n between 0 and most, of whole numbers without an end.
func held(n *big.Int, most int) *big.Int {
	if n.Sign() < 0 {
		return new(big.Int)
	}
	if m := big.NewInt(int64(most)); n.Cmp(m) > 0 {
		return m
	}
	return n
}

// heldInt is held of a Go int.
func heldInt(n, most int) *big.Int {
	return held(big.NewInt(int64(n)), most)
}

// heldSum tells the sum of what counts of l, without an end.
func heldSum(most int, l ...int) *big.Int {
	sum := new(big.Int)
	for _, n := range l {
		sum.Add(sum, heldInt(n, most))
	}
	return sum
}

// lists hands out lists of all lengths up to 2 of edges, and some longer ones from a fixed seed.
func lists(yield func([]int) bool) {
	if !yield(nil) || !yield([]int{}) {
		return
	}
	for _, a := range edges {
		if !yield([]int{a}) {
			return
		}
		for _, b := range edges {
			if !yield([]int{a, b}) {
				return
			}
		}
	}
	r := rand.New(rand.NewSource(1))
	for range 5000 {
		l := make([]int, 3+r.Intn(8))
		for i := range l {
			l[i] = pick(r)
		}
		if !yield(l) {
			return
		}
	}
}

// pick tells an edge, or a number whose sums lie about an end.
func pick(r *rand.Rand) int {
	switch r.Intn(4) {
	case 0:
		return edges[r.Intn(len(edges))]
	case 1:
		return r.Intn(api.MaxTime / 3)
	case 2:
		return r.Intn(api.MaxUsage / 3)
	}
	return r.Intn(20) - 5
}

// TestWithinEnds: P1.1, by its words.
func TestWithinEnds(t *testing.T) {
	for _, x := range []struct {
		name          string
		n, time, used int
	}{
		{"least int", math.MinInt, 0, 0},
		{"below 0", -1, 0, 0},
		{"0", 0, 0, 0},
		{"1", 1, 1, 1},
		{"ordinary", 4711, 4711, 4711},
		{"below MaxTime", 999999, 999999, 999999},
		{"MaxTime", 1000000, 1000000, 1000000},
		{"beyond MaxTime", 1000001, 1000000, 1000001},
		{"below MaxUsage", 999999999999, 1000000, 999999999999},
		{"MaxUsage", 1000000000000, 1000000, 1000000000000},
		{"beyond MaxUsage", 1000000000001, 1000000, 1000000000000},
		{"greatest int", math.MaxInt, 1000000, 1000000000000},
	} {
		if got := Time(x.n); got != x.time {
			t.Errorf("%s: Time(%d) = %d, want %d", x.name, x.n, got, x.time)
		}
		if got := Usage(x.n); got != x.used {
			t.Errorf("%s: Usage(%d) = %d, want %d", x.name, x.n, got, x.used)
		}
	}
}

// TestWithinEndsEverywhere: P1.1, at every edge, against whole numbers.
func TestWithinEndsEverywhere(t *testing.T) {
	for _, n := range edges {
		if got, want := Time(n), heldInt(n, api.MaxTime).Int64(); int64(got) != want {
			t.Errorf("Time(%d) = %d, want %d", n, got, want)
		}
		if got, want := Usage(n), heldInt(n, api.MaxUsage).Int64(); int64(got) != want {
			t.Errorf("Usage(%d) = %d, want %d", n, got, want)
		}
	}
}

// TestAnyKindOfNumber: what holds numbers does so for each kind, small ones and those without a sign too.
func TestAnyKindOfNumber(t *testing.T) {
	if got := within(int8(-128), 100); got != 0 {
		t.Error("int8 below 0:", got)
	}
	if got := within(uint64(math.MaxUint64), 5); got != 5 {
		t.Error("uint64 beyond:", got)
	}
	if got := within(api.Errno(7), 9); got != 7 {
		t.Error("a type of its own:", got)
	}
	if got, over := together(uint8(255), 200, 55); got != 255 || over {
		t.Error("uint8 at its end:", got, over)
	}
	if got, over := together(uint8(255), 200, 56); got != 255 || !over {
		t.Error("uint8 beyond its end:", got, over)
	}
}

// TestAddAndOver: P1.2, by its words.
func TestAddAndOver(t *testing.T) {
	for _, x := range []struct {
		name string
		l    []int
		sum  int
		over bool
	}{
		{"none", nil, 0, false},
		{"one", []int{5}, 5, false},
		{"some", []int{1, 2, 3}, 6, false},
		{"0 alone", []int{0, 0}, 0, false},
		{"one below 0", []int{-1}, 0, false},
		{"below 0 takes nothing away", []int{10, -4}, 10, false},
		{"below 0 first", []int{-4, 10}, 10, false},
		{"MaxTime alone", []int{1000000}, 1000000, false},
		{"one beyond MaxTime counts as MaxTime", []int{1000001}, 1000000, false},
		{"greatest int counts as MaxTime", []int{math.MaxInt}, 1000000, false},
		{"greatest int and 0", []int{math.MaxInt, 0}, 1000000, false},
		{"greatest int and 1", []int{math.MaxInt, 1}, 1000000, true},
		{"greatest and least int", []int{math.MaxInt, math.MinInt}, 1000000, false},
		{"least int twice", []int{math.MinInt, math.MinInt}, 0, false},
		{"greatest int thrice", []int{math.MaxInt, math.MaxInt, math.MaxInt}, 1000000, true},
		{"just MaxTime", []int{999999, 1}, 1000000, false},
		{"just beyond", []int{999999, 2}, 1000000, true},
		{"the example", []int{999999, 5}, 1000000, true},
		{"over, and then below 0", []int{600000, 600000, -900000}, 1000000, true},
		{"over in many parts", []int{250000, 250000, 250000, 250000, 1}, 1000000, true},
	} {
		if got := Add(x.l...); got != x.sum {
			t.Errorf("%s: Add(%v) = %d, want %d", x.name, x.l, got, x.sum)
		}
		if got := Over(x.l...); got != x.over {
			t.Errorf("%s: Over(%v) = %t, want %t", x.name, x.l, got, x.over)
		}
	}
}

// TestSumsEverywhere: P1.2 and P1.3, of many lists, against whole numbers.
func TestSumsEverywhere(t *testing.T) {
	for l := range lists {
		times := heldSum(api.MaxTime, l...)
		if got, want := Add(l...), held(times, api.MaxTime).Int64(); int64(got) != want {
			t.Fatalf("Add(%v) = %d, want %d", l, got, want)
		}
		if got, want := Over(l...), times.Cmp(big.NewInt(api.MaxTime)) > 0; got != want {
			t.Fatalf("Over(%v) = %t, want %t", l, got, want)
		}
		used := heldSum(api.MaxUsage, l...)
		if got, want := Plus(l...), held(used, api.MaxUsage).Int64(); int64(got) != want {
			t.Fatalf("Plus(%v) = %d, want %d", l, got, want)
		}
	}
}

// TestSub: P1.2, by its words.
func TestSub(t *testing.T) {
	for _, x := range []struct {
		name       string
		a, b, want int
	}{
		{"the example", 3, 5, 0},
		{"more", 5, 3, 2},
		{"as much", 5, 5, 0},
		{"nothing", 5, 0, 5},
		{"b below 0 counts as 0", 5, -3, 5},
		{"a below 0 counts as 0", -3, 5, 0},
		{"both below 0", -3, -5, 0},
		{"a beyond counts as MaxTime", 1000005, 5, 999995},
		{"b beyond counts as MaxTime", 1000000, 1000005, 0},
		{"both beyond", 3000000, 2000000, 0},
		{"the greatest int less the least", math.MaxInt, math.MinInt, 1000000},
		{"the least int less the greatest", math.MinInt, math.MaxInt, 0},
		{"0 less the least int", 0, math.MinInt, 0},
		{"the whole", 1000000, 0, 1000000},
	} {
		if got := Sub(x.a, x.b); got != x.want {
			t.Errorf("%s: Sub(%d, %d) = %d, want %d", x.name, x.a, x.b, got, x.want)
		}
	}
}

// TestPairsEverywhere: Sub of P1.2 and Times of P1.3, of each two edges, against whole numbers.
func TestPairsEverywhere(t *testing.T) {
	for _, a := range edges {
		for _, b := range edges {
			less := new(big.Int).Sub(heldInt(a, api.MaxTime), heldInt(b, api.MaxTime))
			if got, want := Sub(a, b), held(less, api.MaxTime).Int64(); int64(got) != want {
				t.Errorf("Sub(%d, %d) = %d, want %d", a, b, got, want)
			}
			product := new(big.Int).Mul(heldInt(a, api.MaxUsage), heldInt(b, api.MaxUsage))
			if got, want := Times(a, b), held(product, api.MaxUsage).Int64(); int64(got) != want {
				t.Errorf("Times(%d, %d) = %d, want %d", a, b, got, want)
			}
		}
	}
}

// TestPlus: P1.3, by its words.
func TestPlus(t *testing.T) {
	for _, x := range []struct {
		name string
		l    []int
		want int
	}{
		{"none", nil, 0},
		{"one", []int{5}, 5},
		{"some", []int{1, 2, 3}, 6},
		{"beyond MaxTime", []int{1000000, 1}, 1000001},
		{"below 0 takes nothing away", []int{10, -4}, 10},
		{"just MaxUsage", []int{999999999999, 1}, 1000000000000},
		{"just beyond", []int{999999999999, 2}, 1000000000000},
		{"MaxUsage and 1", []int{1000000000000, 1}, 1000000000000},
		{"beyond, and then below 0", []int{1000000000000, -1}, 1000000000000},
		{"greatest int twice", []int{math.MaxInt, math.MaxInt}, 1000000000000},
		{"least int twice", []int{math.MinInt, math.MinInt}, 0},
		{"least and greatest int", []int{math.MinInt, math.MaxInt}, 1000000000000},
	} {
		if got := Plus(x.l...); got != x.want {
			t.Errorf("%s: Plus(%v) = %d, want %d", x.name, x.l, got, x.want)
		}
	}
}

// TestLongLists: P1.2 and P1.3, of lists so long that a sum made first and held later would wrap round.
func TestLongLists(t *testing.T) {
	l := slices.Repeat([]int{api.MaxUsage}, math.MaxInt/api.MaxUsage+1)
	if got := Plus(l...); got != api.MaxUsage {
		t.Errorf("Plus of %d greatest usages = %d", len(l), got)
	}
	if got := Add(l...); got != api.MaxTime {
		t.Errorf("Add of %d greatest usages = %d", len(l), got)
	}
	if !Over(l...) {
		t.Errorf("Over of %d greatest usages is false", len(l))
	}
	ones := slices.Repeat([]int{1}, api.MaxTime)
	if got := Add(ones...); got != api.MaxTime || Over(ones...) {
		t.Errorf("Add of MaxTime ones = %d, Over %t", got, Over(ones...))
	}
	ones = append(ones, 1)
	if got := Add(ones...); got != api.MaxTime || !Over(ones...) {
		t.Errorf("Add of MaxTime + 1 ones = %d, Over %t", got, Over(ones...))
	}
}

// TestTimes: P1.3, by its words.
func TestTimes(t *testing.T) {
	for _, x := range []struct {
		name       string
		a, b, want int
	}{
		{"the example", 1000000, 1000001, 1000000000000},
		{"just MaxUsage", 1000000, 1000000, 1000000000000},
		{"just below", 999999, 1000001, 999999999999},
		{"ordinary", 6, 7, 42},
		{"0 first", 0, 5, 0},
		{"0 behind", 5, 0, 0},
		{"0 and beyond", 0, math.MaxInt, 0},
		{"1 and MaxUsage", 1, 1000000000000, 1000000000000},
		{"1 and beyond", 1, 1000000000001, 1000000000000},
		{"below 0 counts as 0", -5, 7, 0},
		{"both below 0", -5, -7, 0},
		{"least int twice", math.MinInt, math.MinInt, 0},
		{"greatest int twice", math.MaxInt, math.MaxInt, 1000000000000},
		{"a product that would wrap round to little", 1 << 32, 1 << 32, 1000000000000},
		{"half and 2", 500000000000, 2, 1000000000000},
		{"a little more than half and 2", 500000000001, 2, 1000000000000},
		{"a third and 3", 333333333333, 3, 999999999999},
	} {
		if got := Times(x.a, x.b); got != x.want {
			t.Errorf("%s: Times(%d, %d) = %d, want %d", x.name, x.a, x.b, got, x.want)
		}
	}
}

// TestHalf: P1.3, by its words.
func TestHalf(t *testing.T) {
	for _, x := range []struct{ n, want int }{
		{0, 0}, {1, 0}, {2, 1}, {3, 1}, {9, 4}, {10, 5},
		{-1, 0}, {-2, 0}, {-9, 0}, {math.MinInt, 0},
		{1000001, 500000},
		{999999999999, 499999999999}, {1000000000000, 500000000000},
		{1000000000001, 500000000000}, {2000000000000, 500000000000}, {math.MaxInt, 500000000000},
	} {
		if got := Half(x.n); got != x.want {
			t.Errorf("Half(%d) = %d, want %d", x.n, got, x.want)
		}
	}
}

// TestOrderOfParts: P1.4, the order of what is added.
func TestOrderOfParts(t *testing.T) {
	r := rand.New(rand.NewSource(2))
	for l := range lists {
		m := slices.Clone(l)
		r.Shuffle(len(m), func(i, j int) { m[i], m[j] = m[j], m[i] })
		if Add(l...) != Add(m...) || Over(l...) != Over(m...) || Plus(l...) != Plus(m...) {
			t.Fatalf("%v and %v differ: Add %d, %d; Over %t, %t; Plus %d, %d", l, m, Add(l...), Add(m...), Over(l...), Over(m...), Plus(l...), Plus(m...))
		}
	}
}

// TestParting: P1.4, how what is added is parted.
func TestParting(t *testing.T) {
	for l := range lists {
		for i := range len(l) + 1 {
			if got, want := Add(Add(l[:i]...), Add(l[i:]...)), Add(l...); got != want {
				t.Fatalf("Add(%v) parted at %d = %d, want %d", l, i, got, want)
			}
			if got, want := Plus(Plus(l[:i]...), Plus(l[i:]...)), Plus(l...); got != want {
				t.Fatalf("Plus(%v) parted at %d = %d, want %d", l, i, got, want)
			}
		}
	}
}

// TestMoreIsNeverLess: P1.5, of longer lists, and of greater numbers in them.
func TestMoreIsNeverLess(t *testing.T) {
	for l := range lists {
		for i := range len(l) {
			fewer, more := l[:i], l[:i+1]
			if Add(fewer...) > Add(more...) || Plus(fewer...) > Plus(more...) || Over(fewer...) && !Over(more...) {
				t.Fatalf("%v adds less than %v", more, fewer)
			}
		}
		if len(l) == 0 {
			continue
		}
		greater := slices.Clone(l)
		greater[0] = max(greater[0], greater[0]/2+api.MaxTime/4)
		if Add(l...) > Add(greater...) || Plus(l...) > Plus(greater...) || Over(l...) && !Over(greater...) {
			t.Fatalf("%v adds less than %v", greater, l)
		}
	}
}

// TestPairsRise: P1.5, of the calls of one number and of two.
func TestPairsRise(t *testing.T) {
	rising := slices.Sorted(slices.Values(edges))
	for i, more := range rising[1:] {
		less := rising[i]
		if Time(less) > Time(more) || Usage(less) > Usage(more) || Half(less) > Half(more) {
			t.Errorf("%d has less than %d", more, less)
		}
		for _, n := range edges {
			if Times(less, n) > Times(more, n) || Times(n, less) > Times(n, more) {
				t.Errorf("Times of %d and %d is less than that of %d", more, n, less)
			}
			if Sub(less, n) > Sub(more, n) || Sub(n, less) < Sub(n, more) {
				t.Errorf("Sub of %d and %d is out of order with that of %d", more, n, less)
			}
		}
	}
}

// TestSubOfAdd: P1.5, what was added is taken away again.
func TestSubOfAdd(t *testing.T) {
	for _, a := range edges {
		for _, b := range edges {
			back := Sub(Add(a, b), b)
			if !Over(a, b) && back != Time(a) {
				t.Errorf("Sub(Add(%d, %d), %d) = %d, want %d", a, b, b, back, Time(a))
			}
			if Over(a, b) && back >= Time(a) {
				t.Errorf("Sub(Add(%d, %d), %d) = %d, though it was Over", a, b, b, back)
			}
		}
	}
}

// TestListsAreLeft: what is handed in is not changed, its spare room neither.
func TestListsAreLeft(t *testing.T) {
	was := []int{-5, 2000000, 7, math.MaxInt, math.MinInt, 99, -99}
	l := slices.Clone(was)
	Add(l[:4]...)
	Over(l[:4]...)
	Plus(l[:4]...)
	if !slices.Equal(l, was) {
		t.Errorf("%v became %v", was, l)
	}
}
