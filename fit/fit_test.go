package fit

import (
	"math"
	"math/rand"
	"slices"
	"testing"
	"unsafe"

	"muster/api"
	"muster/profile"
)

// steps makes steps of ticks and of how many are free from them on.
func steps(l ...int) []api.Step {
	p := []api.Step{}
	for i := 0; i+1 < len(l); i += 2 {
		p = append(p, api.Step{At: l[i], Free: l[i+1]})
	}
	return p
}

// alts makes options of sizes and walls.
func alts(l ...int) []api.Alt {
	options := []api.Alt{}
	for i := 0; i+1 < len(l); i += 2 {
		options = append(options, api.Alt{Nodes: l[i], Wall: l[i+1]})
	}
	return options
}

// zigzag is a profile of n steps, one each gap ticks, by which in turn a and b
// are free.
func zigzag(n, gap, a, b int) []api.Step {
	p := []api.Step{}
	for i := range n {
		p = append(p, api.Step{At: i * gap, Free: a})
		a, b = b, a
	}
	return p
}

// head cuts a list for what a test tells.
func head[T any](l []T) []T {
	return l[:min(len(l), 6)]
}

// far are numbers far from any tick, and from how many may be free, those
// among them that are one again where a number's higher bits are lost.
func far() []int {
	l := []int{
		math.MinInt, math.MinInt + 1, math.MinInt + 5, math.MinInt32, -1 << 32, -1<<32 + 5,
		math.MaxInt, math.MaxInt - 1, math.MaxInt - 1000000, math.MaxInt32, math.MaxUint32, 1 << 32, 1<<32 + 5, 1 << 62, -1 << 62,
	}
	for _, n := range []int{1, 5, 1000000} {
		l = append(l, n+1<<32, n-1<<32, n+1<<62, n-1<<62)
	}
	return l
}

// good are profiles.
func good() [][]api.Step {
	return [][]api.Step{
		steps(0, 0), steps(0, 4), steps(0, -1), steps(0, 1000000), steps(0, -1000000),
		steps(0, 4, 5, 1, 9, 4), steps(0, 4, 5, 1, 9, 4, 20, 2), steps(0, 0, 5, 3, 9, 0), steps(0, 0, 5, 3, 9, 0, 12, 3, 16, 0),
		steps(0, 2, 5, 3, 9, 2, 12, 1), steps(0, 4, 1000000, 0), steps(0, 0, 1000000, 4), steps(0, 0, 999999, 4), steps(0, 4, 999999, 0),
		steps(0, -3, 1, 7, 2, -1000000, 3, 1000000), zigzag(999, 3, 1, 4), zigzag(1000, 3, 1, 4), zigzag(1000, 1001, 4, -4),
	}
}

// bad are steps that are no profile, though at all ticks, or at some, as many
// are free as are wanted.
func bad() [][]api.Step {
	l := [][]api.Step{
		nil, {}, make([]api.Step, 0, 9),
		steps(1, 9), steps(-1, 9), steps(5, 9, 8, 7), steps(-1, 9, 0, 7), steps(1000001, 9),
		steps(0, 9, 0, 8), steps(0, 9, 5, 8, 5, 7), steps(0, 9, 5, 8, 4, 7), steps(0, 9, 9, 8, 5, 7), steps(0, 9, -1, 8),
		steps(0, 9, 1000001, 8), steps(0, 9, 5, 8, 1000001, 7),
		steps(0, 9, 5, 9), steps(0, 9, 5, 8, 9, 8),
		steps(0, 1000001), steps(0, 9, 5, 1000001), steps(0, 9, 5, -1000001), steps(0, 9, 1000000, 1000001),
		zigzag(1001, 3, 9, 8), zigzag(2000, 1, 9, 8), make([]api.Step, 1001),
	}
	for _, n := range far() {
		l = append(l, steps(n, 9), steps(0, 9, n, 8), steps(0, n), steps(0, 9, 5, n))
	}
	return l
}

// isPlace tells by the chapter's words whether a tick is a place.
func isPlace(p []api.Step, at, long, nodes int) bool {
	if nodes < 1 || nodes > 1000000 || long < 1 || long > 1000000 || at < 0 || at > 1000000 || at+long > 1000000 {
		return false
	}
	return profile.Check(p) == api.OK && profile.Least(p, at, at+long) >= nodes
}

// ticks are those at which a place may begin or end, and their neighbours,
// from from on, rising: the edges of p, also as ends of so long a place.
func ticks(p []api.Step, from, long int) []int {
	from = max(from, 0)
	l := []int{}
	put := func(t int) {
		for _, n := range []int{t - 1, t, t + 1} {
			if from <= n && n <= 1000001 {
				l = append(l, n)
			}
		}
	}
	put(min(from, 1000001))
	for _, s := range append(steps(1000000, 0), p...) {
		put(s.At)
		if 0 < long && long <= 1000000 {
			put(s.At - long)
		}
	}
	slices.Sort(l)
	return slices.Compact(l)
}

// toldEarliest tells by the chapter's words what Earliest has to.
func toldEarliest(p []api.Step, from, long, nodes int) (int, bool) {
	for _, at := range ticks(p, from, long) {
		if isPlace(p, at, long, nodes) {
			return at, true
		}
	}
	return 0, false
}

// toldBest tells by the chapter's words what Best has to.
func toldBest(p []api.Step, options []api.Alt, from, latest, grace int) (int, int, bool) {
	choice, place, found := 0, 0, false
	for i, a := range options {
		if i >= 48 || a.Nodes < 1 || a.Wall < 1 || a.Wall > 1000000 || grace > 1000000 {
			continue
		}
		at, ok := toldEarliest(p, from, a.Wall+max(grace, 0), a.Nodes)
		if !ok || at > latest {
			continue
		}
		if !found || at+a.Wall < place+options[choice].Wall {
			choice, place, found = i, at, true
		}
	}
	return choice, place, found
}

// fits asks Fits for want.
func fits(t *testing.T, p []api.Step, at, long, nodes int, want bool) {
	t.Helper()
	if got := Fits(p, at, long, nodes); got != want {
		t.Errorf("Fits(%v, %d, %d, %d) = %v", head(p), at, long, nodes, got)
	}
	if isPlace(p, at, long, nodes) != want {
		t.Errorf("by the chapter Fits(%v, %d, %d, %d) is not %v", head(p), at, long, nodes, want)
	}
}

// earliest asks Earliest for a place.
func earliest(t *testing.T, p []api.Step, from, long, nodes, want int) {
	t.Helper()
	if at, ok := Earliest(p, from, long, nodes); at != want || !ok {
		t.Errorf("Earliest(%v, %d, %d, %d) = %d, %v, not %d", head(p), from, long, nodes, at, ok, want)
	}
	if at, ok := toldEarliest(p, from, long, nodes); at != want || !ok {
		t.Errorf("by the chapter Earliest(%v, %d, %d, %d) = %d, %v, not %d", head(p), from, long, nodes, at, ok, want)
	}
}

// nowhere asks Earliest for no place.
func nowhere(t *testing.T, p []api.Step, from, long, nodes int) {
	t.Helper()
	if at, ok := Earliest(p, from, long, nodes); at != 0 || ok {
		t.Errorf("Earliest(%v, %d, %d, %d) = %d, %v, not none", head(p), from, long, nodes, at, ok)
	}
	if at, ok := toldEarliest(p, from, long, nodes); at != 0 || ok {
		t.Errorf("by the chapter Earliest(%v, %d, %d, %d) = %d, %v, not none", head(p), from, long, nodes, at, ok)
	}
}

// best asks Best for an option and its place.
func best(t *testing.T, p []api.Step, options []api.Alt, from, latest, grace, choice, place int) {
	t.Helper()
	if c, at, ok := Best(p, options, from, latest, grace); c != choice || at != place || !ok {
		t.Errorf("Best(%v, %v, %d, %d, %d) = %d, %d, %v, not %d, %d", head(p), head(options), from, latest, grace, c, at, ok, choice, place)
	}
	if c, at, ok := toldBest(p, options, from, latest, grace); c != choice || at != place || !ok {
		t.Errorf("by the chapter Best(%v, %v, %d, %d, %d) = %d, %d, %v, not %d, %d", head(p), head(options), from, latest, grace, c, at, ok, choice, place)
	}
}

// none asks Best for no option.
func none(t *testing.T, p []api.Step, options []api.Alt, from, latest, grace int) {
	t.Helper()
	if c, at, ok := Best(p, options, from, latest, grace); c != 0 || at != 0 || ok {
		t.Errorf("Best(%v, %v, %d, %d, %d) = %d, %d, %v, not none", head(p), head(options), from, latest, grace, c, at, ok)
	}
	if c, at, ok := toldBest(p, options, from, latest, grace); c != 0 || at != 0 || ok {
		t.Errorf("by the chapter Best(%v, %v, %d, %d, %d) = %d, %d, %v, not none", head(p), head(options), from, latest, grace, c, at, ok)
	}
}

// takes asks Take for a profile.
func takes(t *testing.T, p []api.Step, at, long, nodes int, want []api.Step) {
	t.Helper()
	q, e := Take(p, at, long, nodes)
	if e != api.OK || !slices.Equal(q, want) || profile.Check(q) != api.OK {
		t.Errorf("Take(%v, %d, %d, %d) = %v, %d, not %v", head(p), at, long, nodes, head(q), int(e), head(want))
	}
}

// fails asks Take for an error.
func fails(t *testing.T, p []api.Step, at, long, nodes int, want api.Errno) {
	t.Helper()
	if q, e := Take(p, at, long, nodes); e != want || len(q) != 0 {
		t.Errorf("Take(%v, %d, %d, %d) = %v, %d, not %d", head(p), at, long, nodes, head(q), int(e), int(want))
	}
}

// TestFits: P11.1, of profiles told by hand.
func TestFits(t *testing.T) {
	// The chapter's example.
	p := steps(0, 4, 5, 1, 9, 4)
	fits(t, p, 1, 4, 2, true)
	fits(t, p, 1, 5, 2, false)
	fits(t, p, 9, 5, 2, true)
	fits(t, p, 8, 5, 2, false)
	// As many as are wanted, one fewer.
	for at, free := range map[int]int{0: 4, 4: 4, 5: 1, 8: 1, 9: 4, 10: 4, 999999: 4} {
		for nodes := -1; nodes <= 6; nodes++ {
			fits(t, p, at, 1, nodes, 1 <= nodes && nodes <= free)
		}
	}
	fits(t, p, 0, 20, 1, true)
	fits(t, p, 0, 20, 2, false)
	// A single tick has too few: the one behind the end, the last one, one in
	// the midst, the first one, the one ahead of it.
	p = steps(0, 4, 6, 3, 7, 4)
	fits(t, p, 1, 5, 4, true)
	fits(t, p, 2, 5, 4, false)
	fits(t, p, 4, 5, 4, false)
	fits(t, p, 6, 5, 4, false)
	fits(t, p, 7, 5, 4, true)
	for at := range 9 {
		fits(t, p, at, 5, 3, true)
		fits(t, p, at, 1, 4, at != 6)
	}
	fits(t, steps(0, 3, 1, 4), 0, 5, 4, false)
	fits(t, steps(0, 3, 1, 4), 1, 5, 4, true)
	fits(t, steps(0, 4, 999999, 3), 0, 999999, 4, true)
	fits(t, steps(0, 4, 999999, 3), 0, 1000000, 4, false)
	// What is free at the last tick, which no place has, is not asked.
	fits(t, steps(0, 4, 1000000, 3), 0, 1000000, 4, true)
	fits(t, steps(0, 4, 1000000, -3), 999999, 1, 4, true)
	fits(t, steps(0, 4, 1000000, 9), 999999, 1, 5, false)
	// Over many steps.
	fits(t, steps(0, 4, 3, 7, 5, 5, 7, 9, 9, 3), 0, 9, 4, true)
	fits(t, steps(0, 4, 3, 7, 5, 5, 7, 9, 9, 3), 3, 6, 5, true)
	fits(t, steps(0, 4, 3, 7, 5, 5, 7, 9, 9, 3), 3, 6, 6, false)
	fits(t, steps(0, 4, 3, 7, 5, 5, 7, 9, 9, 3), 0, 10, 4, false)
	// None are free, or less than none.
	for _, free := range []int{0, -1, -1000000} {
		for nodes := -2; nodes <= 2; nodes++ {
			fits(t, steps(0, free), 0, 1, nodes, false)
		}
		fits(t, steps(0, free), 0, 1, free, false)
	}
}

// TestFitsEnds: P11.1, of nodes, time and ticks at their ends, and one beyond.
func TestFitsEnds(t *testing.T) {
	all := steps(0, 1000000)
	for nodes, want := range map[int]bool{-1000000: false, -1: false, 0: false, 1: true, 2: true, 999999: true, 1000000: true, 1000001: false, 2000000: false} {
		fits(t, all, 0, 1, nodes, want)
		fits(t, all, 0, 1000000, nodes, want)
		fits(t, all, 999999, 1, nodes, want)
	}
	fits(t, steps(0, 999999), 0, 1, 999999, true)
	fits(t, steps(0, 999999), 0, 1, 1000000, false)
	for long, want := range map[int]bool{-1000000: false, -2: false, -1: false, 0: false, 1: true, 2: true, 999999: true, 1000000: true, 1000001: false, 1000002: false, 2000000: false} {
		fits(t, all, 0, long, 1, want)
		fits(t, all, 0, long, 1000000, want)
		fits(t, all, -1, long, 1, false)
		fits(t, all, -2, long, 1, false)
		fits(t, all, 1000000, long, 1, false)
		fits(t, all, 1000001, long, 1, false)
		fits(t, all, math.MaxInt, long, 1, false)
		fits(t, all, math.MinInt, long, 1, false)
	}
	// At and long together: one less than the last tick, as much, one more.
	for _, at := range []int{0, 1, 5, 499999, 500000, 999998, 999999, 1000000} {
		fits(t, all, at, 1000000-at-1, 1, at < 999999)
		fits(t, all, at, 1000000-at, 1, at < 1000000)
		fits(t, all, at, 1000000-at+1, 1, false)
	}
	l := append(far(), -1, 0, 1, 5, 999999, 1000000)
	for _, a := range far() {
		for _, b := range l {
			for _, c := range l {
				fits(t, all, a, b, c, false)
				fits(t, all, b, a, c, false)
				fits(t, all, b, c, a, false)
			}
		}
	}
}

// TestNoProfile: P11.1 to P11.3, of steps that are no profile: they have no
// place.
func TestNoProfile(t *testing.T) {
	options := alts(1, 1, 2, 5, 1, 1000000)
	for _, p := range bad() {
		for _, at := range []int{math.MinInt, -1, 0, 1, 5, 9, 999999, 1000000, math.MaxInt} {
			for _, long := range []int{-1, 0, 1, 4, 1000000, 1000001} {
				for _, nodes := range []int{-1000001, -1, 0, 1, 5, 1000000} {
					fits(t, p, at, long, nodes, false)
					nowhere(t, p, at, long, nodes)
					fails(t, p, at, long, nodes, api.ErrFree)
				}
			}
			for _, grace := range []int{-1, 0, 1, 12} {
				none(t, p, options, at, 1000000, grace)
			}
		}
	}
}

// TestEarliest: P11.1, of profiles told by hand.
func TestEarliest(t *testing.T) {
	// The chapter's example.
	p := steps(0, 4, 5, 1, 9, 4)
	earliest(t, p, 1, 5, 2, 9)
	earliest(t, p, 1, 4, 2, 1)
	// From: below 0, at a place, behind it and ahead of the next one, at that.
	for from, want := range map[int]int{math.MinInt: 0, -1000000: 0, -7: 0, -1: 0, 0: 0, 1: 1, 2: 2, 3: 9, 4: 9, 5: 9, 6: 9, 8: 9, 9: 9, 10: 10, 1000: 1000, 999996: 999996, 999997: 999997} {
		earliest(t, p, from, 3, 2, want)
	}
	for _, from := range append([]int{999998, 999999, 1000000, 1000001, 2000000}, math.MaxInt, math.MaxInt-1, math.MaxInt-3, math.MaxInt32, 1<<32, 1<<32+5, 1<<62) {
		nowhere(t, p, from, 3, 2)
	}
	// A place for few is where there is none for many.
	earliest(t, p, 3, 3, 1, 3)
	earliest(t, p, 3, 1000, 1, 3)
	earliest(t, p, 4, 1, 4, 4)
	earliest(t, p, 4, 2, 4, 9)
	nowhere(t, p, 0, 1, 5)
	// One room, which begins at a step and ends at one: just long enough, too
	// short by one tick; from its last place, and from behind it.
	p = steps(0, 0, 5, 3, 9, 0)
	for from := -1; from <= 5; from++ {
		earliest(t, p, from, 4, 3, 5)
		earliest(t, p, from, 3, 3, 5)
		nowhere(t, p, from, 5, 3)
		nowhere(t, p, from, 4, 4)
	}
	earliest(t, p, 6, 3, 3, 6)
	nowhere(t, p, 6, 4, 3)
	nowhere(t, p, 7, 3, 3)
	earliest(t, p, 8, 1, 3, 8)
	nowhere(t, p, 9, 1, 3)
	nowhere(t, p, 10, 1, 3)
	nowhere(t, p, 1000000, 1, 3)
	// Two rooms.
	p = steps(0, 0, 5, 3, 9, 0, 12, 3, 16, 0)
	for from, want := range map[int]int{-1: 5, 0: 5, 4: 5, 5: 5, 6: 12, 8: 12, 9: 12, 11: 12, 12: 12} {
		earliest(t, p, from, 4, 3, want)
		earliest(t, p, from, 4, 1, want)
	}
	nowhere(t, p, 13, 4, 3)
	nowhere(t, p, 0, 5, 3)
	earliest(t, p, 7, 2, 3, 7)
	earliest(t, p, 8, 2, 3, 12)
	// Rooms of several steps, of which the second one is longer.
	p = steps(0, 1, 3, 4, 5, 7, 6, 2, 8, 4, 10, 9, 12, 5, 15, 3, 20, 4)
	earliest(t, p, 0, 3, 4, 3)
	earliest(t, p, 0, 4, 4, 8)
	earliest(t, p, 0, 7, 4, 8)
	earliest(t, p, 0, 8, 4, 20)
	earliest(t, p, 0, 9, 2, 3)
	earliest(t, p, 4, 3, 4, 8)
	earliest(t, p, 9, 6, 4, 9)
	earliest(t, p, 9, 7, 4, 20)
	earliest(t, p, 0, 1, 5, 5)
	earliest(t, p, 0, 2, 5, 10)
	earliest(t, p, 0, 5, 5, 10)
	nowhere(t, p, 0, 6, 5)
	earliest(t, p, 0, 3, 1, 0)
	earliest(t, p, 0, 1000000, 1, 0)
	nowhere(t, p, 1, 1000000, 1)
	// From itself, where no step begins, ahead of the first one that differs
	// and behind the last one.
	earliest(t, steps(0, 4), 7, 10, 4, 7)
	earliest(t, steps(0, 4, 100, 3), 7, 93, 4, 7)
	nowhere(t, steps(0, 4, 100, 3), 7, 94, 4)
	earliest(t, steps(0, 3, 100, 4), 777, 10, 4, 777)
}

// TestEarliestEnds: P11.1, of rooms that go on to the last tick, and of nodes
// and time at their ends, and one beyond.
func TestEarliestEnds(t *testing.T) {
	p := steps(0, 0, 5, 3)
	earliest(t, p, 0, 999994, 3, 5)
	earliest(t, p, 0, 999995, 3, 5)
	nowhere(t, p, 0, 999996, 3)
	earliest(t, p, 6, 999994, 3, 6)
	nowhere(t, p, 6, 999995, 3)
	nowhere(t, p, 7, 999994, 3)
	for _, from := range []int{5, 999998, 999999} {
		earliest(t, p, from, 1, 3, from)
	}
	earliest(t, p, 999998, 2, 3, 999998)
	nowhere(t, p, 999999, 2, 3)
	nowhere(t, p, 1000000, 1, 3)
	nowhere(t, p, 1000001, 1, 3)
	// Up to the last tick, which no place has.
	earliest(t, steps(0, 4, 1000000, 0), 0, 1000000, 4, 0)
	earliest(t, steps(0, 4, 1000000, 0), 999999, 1, 4, 999999)
	earliest(t, steps(0, 4, 999999, 0), 0, 999999, 4, 0)
	nowhere(t, steps(0, 4, 999999, 0), 0, 1000000, 4)
	nowhere(t, steps(0, 4, 999999, 0), 999999, 1, 4)
	earliest(t, steps(0, 0, 999999, 4), 0, 1, 4, 999999)
	nowhere(t, steps(0, 0, 999999, 4), 0, 2, 4)
	nowhere(t, steps(0, 0, 1000000, 4), 0, 1, 4)
	nowhere(t, steps(0, 0, 1000000, 4), 1000000, 1, 4)
	all := steps(0, 1000000)
	for _, from := range []int{math.MinInt, -1, 0} {
		for _, nodes := range []int{1, 1000000} {
			earliest(t, all, from, 1, nodes, 0)
			earliest(t, all, from, 1000000, nodes, 0)
			nowhere(t, all, from, 1000001, nodes)
			nowhere(t, all, from, 0, nodes)
			nowhere(t, all, from, -1, nodes)
		}
		for _, nodes := range []int{-1000000, -1, 0, 1000001, 2000000} {
			nowhere(t, all, from, 1, nodes)
			nowhere(t, all, from, 1000000, nodes)
		}
		nowhere(t, steps(0, -1), from, 1, -1)
		nowhere(t, steps(0, 0), from, 1, 0)
	}
	nowhere(t, all, 1, 1000000, 1)
	earliest(t, all, 1, 999999, 1, 1)
	// The most steps: the first room, and one that only the last of them has.
	p = zigzag(1000, 3, 1, 4)
	earliest(t, p, 0, 3, 4, 3)
	earliest(t, p, 4, 3, 4, 9)
	earliest(t, p, 0, 4, 4, 2997)
	earliest(t, p, 0, 997003, 4, 2997)
	nowhere(t, p, 0, 997004, 4)
	earliest(t, zigzag(999, 3, 1, 4), 2990, 3, 4, 2991)
	nowhere(t, zigzag(999, 3, 1, 4), 2992, 3, 4)
	nowhere(t, zigzag(999, 3, 1, 4), 0, 4, 4)
	l := append(far(), -1, 0, 1, 5, 1000000)
	for _, a := range far() {
		for _, b := range l {
			for _, c := range l {
				nowhere(t, all, b, a, c)
				nowhere(t, all, b, c, a)
				if a > 0 {
					nowhere(t, all, a, b, c)
				}
			}
		}
		if a < 0 {
			earliest(t, all, a, 5, 5, 0)
		}
	}
}

// TestBest: P11.2, of profiles told by hand.
func TestBest(t *testing.T) {
	p := steps(0, 4, 5, 1, 9, 4)
	none(t, p, nil, 0, 1000000, 0)
	none(t, p, []api.Alt{}, 0, 1000000, 0)
	none(t, p, []api.Alt{{}}, 0, 1000000, 0)
	// One.
	best(t, p, alts(2, 5), 0, 1000000, 0, 0, 0)
	best(t, p, alts(2, 5), 1, 1000000, 0, 0, 9)
	best(t, p, alts(2, 5), math.MinInt, 1000000, 0, 0, 0)
	best(t, p, alts(2, 5), 20, 1000000, 0, 0, 20)
	none(t, p, alts(5, 5), 0, 1000000, 0)
	none(t, p, alts(2, 5), 999996, 1000000, 0)
	none(t, p, alts(2, 5), 1000000, math.MaxInt, 0)
	none(t, p, alts(2, 5), math.MaxInt, math.MaxInt, 0)
	// That which ends first: the shorter one, the smaller one that begins
	// earlier, the greater one that begins later and ends earlier.
	best(t, p, alts(4, 6, 1, 14, 2, 5), 0, 1000000, 0, 2, 0)
	best(t, p, alts(2, 5, 4, 6, 1, 14), 0, 1000000, 0, 0, 0)
	best(t, p, alts(4, 6, 1, 14, 2, 5), 1, 1000000, 0, 2, 9)
	best(t, p, alts(4, 6, 1, 12, 2, 5), 1, 1000000, 0, 1, 1)
	best(t, p, alts(4, 6, 1, 20, 2, 7), 1, 1000000, 0, 0, 9)
	best(t, p, alts(1, 20, 4, 5), 3, 1000000, 0, 1, 9)
	best(t, p, alts(4, 5, 1, 20), 3, 1000000, 0, 0, 9)
	best(t, p, alts(1, 10, 4, 5), 3, 1000000, 0, 0, 3)
	// The first one of several that end together, at one place or at two.
	best(t, p, alts(1, 3, 2, 3, 4, 3), 0, 1000000, 0, 0, 0)
	best(t, p, alts(4, 3, 2, 3, 1, 3), 0, 1000000, 0, 0, 0)
	best(t, p, alts(1, 4, 4, 3, 2, 3, 1, 3), 0, 1000000, 0, 1, 0)
	best(t, p, alts(1, 11, 4, 5), 3, 1000000, 0, 0, 3)
	best(t, p, alts(4, 5, 1, 11), 3, 1000000, 0, 0, 9)
	best(t, p, alts(1, 12, 4, 5, 1, 11), 3, 1000000, 0, 1, 9)
	best(t, p, alts(2, 3, 2, 3), 0, 1000000, 0, 0, 0)
	// Those that have no place do not count.
	best(t, p, alts(5, 1, 1000000, 1, 1000001, 1, 3, 8), 0, 1000000, 0, 3, 9)
	best(t, p, alts(1, 1000001, 4, 999992, 4, 999991), 0, 1000000, 0, 2, 9)
	none(t, p, alts(1, 1000001, 4, 999992, 5, 1), 0, 1000000, 0)
}

// TestBestPassedOver: P11.2, of options whose Nodes or Wall are below 1: they
// are passed over, and the others keep their numbers.
func TestBestPassedOver(t *testing.T) {
	p := steps(0, 4, 5, 1, 9, 4)
	passed := alts(0, 1, 1, 0, 0, 0, -1, 1, 1, -1, -1, -1, -1000000, 1, 1, -1000000)
	for _, n := range far() {
		passed = append(passed, alts(n, 1, 1, n, n, n, 0, n, n, 0)...)
	}
	for _, a := range passed {
		one := []api.Alt{a}
		for _, grace := range []int{-1, 0, 1, 5, 12, 999999, 1000000, math.MaxInt} {
			none(t, p, one, 0, 1000000, grace)
			none(t, steps(0, -1000000), one, 0, 1000000, grace)
		}
		best(t, p, append(one, alts(2, 6)...), 0, 1000000, 0, 1, 9)
		best(t, p, append(alts(2, 6), a), 0, 1000000, 0, 0, 9)
		best(t, p, append(append(alts(2, 6), a), alts(1, 7)...), 0, 1000000, 0, 2, 0)
		// By grace no Wall comes to be one.
		best(t, p, append(one, alts(1, 20)...), 0, 1000000, 7, 1, 0)
	}
	for n := range 47 {
		l := append(slices.Clone(passed[:n]), alts(4, 3)...)
		best(t, p, append(l, passed...), 0, 1000000, 0, n, 0)
	}
}

// TestBestLatest: P11.2, of the latest place.
func TestBestLatest(t *testing.T) {
	p := steps(0, 4, 5, 1, 9, 4)
	for _, latest := range append(far(), -1, 0, 1) {
		if latest < 0 {
			none(t, p, alts(1, 1, 4, 3), 0, latest, 0)
			none(t, p, alts(1, 1, 4, 3), math.MinInt, latest, 0)
			none(t, p, alts(1, 1, 4, 3), latest, latest, 0)
		} else {
			best(t, p, alts(1, 2, 4, 1), 0, latest, 0, 1, 0)
			best(t, p, alts(1, 2, 4, 1), -5, latest, 0, 1, 0)
		}
	}
	// Just the place, one less.
	for from, at := range map[int]int{0: 9, 1: 9, 9: 9, 10: 10, 999994: 999994} {
		best(t, p, alts(2, 6), from, at, 0, 0, at)
		best(t, p, alts(2, 6), from, at+1, 0, 0, at)
		best(t, p, alts(2, 6), from, math.MaxInt, 0, 0, at)
		none(t, p, alts(2, 6), from, at-1, 0)
		none(t, p, alts(2, 6), from, 0, 0)
		none(t, p, alts(2, 6), from, -1, 0)
	}
	// Too late, that which ends first gives way to one that ends later.
	best(t, p, alts(1, 20, 4, 5), 3, 9, 0, 1, 9)
	best(t, p, alts(1, 20, 4, 5), 3, 8, 0, 0, 3)
	best(t, p, alts(4, 5, 1, 20), 3, 8, 0, 1, 3)
	best(t, p, alts(1, 20, 4, 5), 3, 3, 0, 0, 3)
	none(t, p, alts(1, 20, 4, 5), 3, 2, 0)
	// The latest place is not the latest end.
	best(t, p, alts(1, 1000000), 0, 0, 0, 0, 0)
}

// TestBestGrace: P11.2, of grace, which counts for the place, but not for what
// is least.
func TestBestGrace(t *testing.T) {
	p := steps(0, 4, 5, 1, 9, 4)
	for _, grace := range []int{math.MinInt, math.MinInt + 5, -1 << 32, -1000000, -6, -5, -4, -1, 0} {
		best(t, p, alts(2, 5), 0, 1000000, grace, 0, 0)
		best(t, p, alts(2, 6), 0, 1000000, grace, 0, 9)
		best(t, p, alts(4, 6, 2, 5), 0, 1000000, grace, 1, 0)
		best(t, p, alts(1, 1000000), 0, 1000000, grace, 0, 0)
		none(t, p, alts(1, 1000001), 0, 1000000, grace)
	}
	best(t, p, alts(2, 5), 0, 1000000, 1, 0, 9)
	best(t, p, alts(2, 4), 0, 1000000, 1, 0, 0)
	best(t, p, alts(2, 4), 0, 1000000, 2, 0, 9)
	best(t, p, alts(2, 4), 0, 8, 1, 0, 0)
	none(t, p, alts(2, 4), 0, 8, 2)
	// It puts the one behind the gap: by its place and its Wall it ends at 14.
	best(t, p, alts(2, 5, 1, 13), 0, 1000000, 1, 1, 0)
	best(t, p, alts(2, 5, 1, 14), 0, 1000000, 1, 0, 9)
	best(t, p, alts(1, 14, 2, 5), 0, 1000000, 1, 0, 0)
	best(t, p, alts(1, 15, 2, 5), 0, 1000000, 1, 1, 9)
	best(t, p, alts(1, 15, 2, 5), 0, 1000000, 999986, 1, 9)
	// Wall and grace together: as long as all time, one more, more than any
	// int.
	for _, wall := range []int{1, 2, 5, 499999, 999999, 1000000} {
		best(t, p, alts(1, wall), 0, 1000000, 1000000-wall, 0, 0)
		best(t, p, alts(1, wall), 0, 0, 1000000-wall, 0, 0)
		none(t, p, alts(1, wall), 1, 1000000, 1000000-wall)
		none(t, p, alts(1, wall), 0, 1000000, 1000000-wall+1)
		for _, n := range []int{1000000, 1000001, 2000000, math.MaxInt32, 1 << 32, 1<<32 + 5, 1 << 62, math.MaxInt - 1000000, math.MaxInt - 1, math.MaxInt} {
			none(t, p, alts(1, wall), 0, 1000000, n)
			none(t, p, alts(1, n+1), 0, 1000000, n)
			none(t, p, alts(1, n+1), 0, 1000000, wall)
			none(t, p, alts(1, n, 1, wall, 1, math.MaxInt), 0, 1000000, n)
		}
	}
	best(t, p, alts(4, 3), 0, 1000000, 999988, 0, 9)
	none(t, p, alts(4, 3), 0, 1000000, 999989)
	// One is too long by it, another one is not.
	best(t, p, alts(1, math.MaxInt, 1, 20, 1, 21), 0, 1000000, 999980, 1, 0)
	best(t, p, alts(1, 21, 1, 30, 1, 20), 0, 1000000, 999980, 2, 0)
}

// TestBestMost: P11.2, of as many options as count, and of more.
func TestBestMost(t *testing.T) {
	p := steps(0, 4, 5, 1, 9, 4)
	for _, n := range []int{1, 2, 47, 48, 49, 50, 96, 100, 1000, 70000} {
		for i := range n {
			if i > 100 && i < n-1 {
				continue
			}
			l := slices.Repeat(alts(4, 4), n)
			l[i] = api.Alt{Nodes: 1, Wall: 3}
			if i < 48 {
				best(t, p, l, 0, 1000000, 0, i, 0)
			} else {
				best(t, p, l, 0, 1000000, 0, 0, 0)
			}
			// The only one that may be: those that are passed over count with
			// the first ones.
			l = make([]api.Alt, n)
			l[i] = api.Alt{Nodes: 2, Wall: 6}
			if i < 48 {
				best(t, p, l, 0, 1000000, 0, i, 9)
			} else {
				none(t, p, l, 0, 1000000, 0)
			}
			// The only one with a place.
			l = slices.Repeat(alts(5, 1), n)
			l[i] = api.Alt{Nodes: 4, Wall: 6}
			if i < 48 {
				best(t, p, l, 0, 9, 0, i, 9)
				none(t, p, l, 0, 8, 0)
			} else {
				none(t, p, l, 0, 9, 0)
			}
		}
	}
	// All sizes of a job that may have any of them.
	l := []api.Alt{}
	for n := 48; n >= 1; n-- {
		l = append(l, api.Alt{Nodes: n, Wall: 10})
	}
	best(t, p, l, 0, 1000000, 0, 47, 0)
	best(t, steps(0, 48), l, 0, 1000000, 0, 0, 0)
	best(t, steps(0, 0, 7, 30, 20, 48), l, 0, 1000000, 3, 18, 7)
	best(t, steps(0, 0, 7, 30, 19, 10), l, 0, 1000000, 3, 38, 7)
}

// TestTake: P11.3, of profiles told by hand.
func TestTake(t *testing.T) {
	p := steps(0, 4, 5, 1, 9, 4)
	takes(t, p, 0, 5, 4, steps(0, 0, 5, 1, 9, 4))
	takes(t, p, 0, 5, 3, steps(0, 1, 9, 4))
	takes(t, p, 1, 4, 2, steps(0, 4, 1, 2, 5, 1, 9, 4))
	takes(t, p, 1, 3, 2, steps(0, 4, 1, 2, 4, 4, 5, 1, 9, 4))
	takes(t, p, 5, 4, 1, steps(0, 4, 5, 0, 9, 4))
	takes(t, p, 6, 1, 1, steps(0, 4, 5, 1, 6, 0, 7, 1, 9, 4))
	takes(t, p, 0, 20, 1, steps(0, 3, 5, 0, 9, 3, 20, 4))
	takes(t, p, 9, 5, 3, steps(0, 4, 5, 1, 14, 4))
	takes(t, p, 9, 999991, 4, steps(0, 4, 5, 1, 9, 0, 1000000, 4))
	takes(t, p, 9, 999991, 3, steps(0, 4, 5, 1, 1000000, 4))
	takes(t, p, 999999, 1, 4, steps(0, 4, 5, 1, 9, 4, 999999, 0, 1000000, 4))
	takes(t, p, 0, 1000000, 1, steps(0, 3, 5, 0, 9, 3, 1000000, 4))
	takes(t, steps(0, 4), 0, 1000000, 4, steps(0, 0, 1000000, 4))
	takes(t, steps(0, 1000000), 5, 1, 1000000, steps(0, 1000000, 5, 0, 6, 1000000))
	takes(t, steps(0, 4, 1000000, 0), 0, 1000000, 4, steps(0, 0))
	takes(t, steps(0, -3, 5, 2, 9, -1000000), 5, 4, 2, steps(0, -3, 5, 0, 9, -1000000))
	// None, also where profile would tell another error.
	for _, x := range [][3]int{
		{0, 6, 4}, {0, 6, 2}, {0, 5, 5}, {1, 5, 2}, {4, 2, 2}, {5, 1, 2}, {8, 2, 2}, {3, 8, 2}, {9, 999992, 1}, {9, 1, 5},
		{-1, 1, 1}, {-1, 2, 1}, {-1, 1000000, 1}, {1000000, 1, 1}, {999999, 2, 1}, {1000001, 1, 1}, {1, 1000000, 1},
		{0, 0, 1}, {5, 0, 1}, {0, -1, 1}, {5, -1, 1}, {0, 1000001, 1}, {0, 1, 0}, {0, 5, 0}, {0, 1, -1}, {0, 1, -1000000}, {0, 1, 1000000}, {0, 1, 1000001}, {0, 1, -1000001},
		{math.MaxInt, 1, 1}, {math.MaxInt, math.MaxInt, 1}, {1, math.MaxInt, 1}, {math.MinInt, 1, 1}, {math.MinInt, math.MinInt, math.MinInt}, {0, 1, math.MinInt}, {0, 1, math.MaxInt}, {math.MinInt, math.MaxInt, 1}, {math.MaxInt, math.MinInt, 1}, {1 << 62, 1 << 62, 1},
	} {
		fits(t, p, x[0], x[1], x[2], false)
		fails(t, p, x[0], x[1], x[2], api.ErrFree)
	}
	fails(t, steps(0, 0), 0, 1, 1, api.ErrFree)
	fails(t, steps(0, -1), 0, 1, 1, api.ErrFree)
	fails(t, steps(0, -1), 0, 1, -1, api.ErrFree)
}

// TestTakeBig: P11.3, of places behind which there would be too many steps:
// profile's error is handed on.
func TestTakeBig(t *testing.T) {
	for _, x := range []struct{ n, at, long, want int }{
		{997, 1, 1, 999}, {998, 1, 1, 1000}, {999, 1, 1, 1001}, {1000, 1, 1, 1002},
		{999, 0, 1, 1000}, {1000, 0, 1, 1001}, {999, 1, 2, 1000}, {1000, 1, 2, 1001}, {1000, 1, 500, 1001},
		{1000, 0, 3, 1000}, {1000, 0, 30, 1000}, {1000, 999999, 1, 1002}, {998, 999999, 1, 1000}, {1000, 0, 1000000, 1001}, {999, 0, 1000000, 1000},
	} {
		p := zigzag(x.n, 3, 10, 20)
		q, e := profile.Add(p, x.at, x.at+x.long, -7)
		fits(t, p, x.at, x.long, 7, true)
		if x.want > 1000 {
			fails(t, p, x.at, x.long, 7, api.ErrBig)
			if e != api.ErrBig {
				t.Errorf("profile.Add(%v, %d, %d, -7): %d", head(p), x.at, x.at+x.long, int(e))
			}
			fails(t, p, x.at, x.long, 21, api.ErrFree)
			continue
		}
		takes(t, p, x.at, x.long, 7, q)
		if len(q) != x.want {
			t.Errorf("of %d steps, at %d for %d: %d steps, not %d", x.n, x.at, x.long, len(q), x.want)
		}
	}
	// One fewer by each step that comes to be as its neighbours.
	p := zigzag(1000, 3, 10, 20)
	takes(t, p, 3, 3, 10, append(steps(0, 10), p[3:]...))
	fails(t, p, 3, 3, 21, api.ErrFree)
	fails(t, p, 4, 1, 10, api.ErrBig)
}

// window is a profile as a list: of how many are free at each tick from first
// on, while they are as at the window's end from there on, and as at its first
// tick ahead of it.
func window(first int, frees []int) []api.Step {
	p := steps(0, frees[0])
	for i, free := range frees {
		if p[len(p)-1].Free != free {
			p = append(p, api.Step{At: first + i, Free: free})
		}
	}
	return p
}

// eachRow goes through all rows of n of these numbers.
func eachRow(n int, frees []int, visit func([]int)) {
	row := make([]int, n)
	var fill func(i int)
	fill = func(i int) {
		if i == n {
			visit(row)
			return
		}
		for _, free := range frees {
			row[i] = free
			fill(i + 1)
		}
	}
	fill(0)
}

// hasRoom tells, tick by tick, whether at is a place in a window.
func hasRoom(first int, row []int, at, long, nodes int) bool {
	if nodes < 1 || long < 1 || at < 0 || at+long > 1000000 {
		return false
	}
	for t := max(at, first-1); t < min(at+long, first+len(row)+1); t++ {
		if row[max(0, min(t-first, len(row)-1))] < nodes {
			return false
		}
	}
	// Whatever is all behind the window, or all ahead of it, is as its end.
	return row[max(0, min(at-first, len(row)-1))] >= nodes
}

// TestAllSmall: P11.1 and P11.3, of all profiles of the first ticks, and of the
// last ones, tick by tick.
func TestAllSmall(t *testing.T) {
	const n = 5
	for _, first := range []int{0, 1000001 - n} {
		longs := []int{0, 1, 2, 3, 4, 5, 6, 999994, 999996, 999998, 999999, 1000000, 1000001}
		eachRow(n, []int{-1, 1, 2, 3}, func(row []int) {
			p := window(first, row)
			for _, long := range longs {
				for nodes := range 5 {
					place, ok := 0, false
					for at := first + n + 1; at >= max(first-1, 0); at-- {
						room := hasRoom(first, row, at, long, nodes)
						if Fits(p, at, long, nodes) != room {
							t.Fatalf("Fits(%v, %d, %d, %d) is not %v", p, at, long, nodes, room)
						}
						if room {
							place, ok = at, true
						}
						if got, found := Earliest(p, at, long, nodes); got != place || found != ok {
							t.Fatalf("Earliest(%v, %d, %d, %d) = %d, %v, not %d, %v", p, at, long, nodes, got, found, place, ok)
						}
						q, e := Take(p, at, long, nodes)
						if !room {
							if e != api.ErrFree || len(q) != 0 {
								t.Fatalf("Take(%v, %d, %d, %d) = %v, %d", p, at, long, nodes, q, int(e))
							}
							continue
						}
						want, _ := profile.Add(p, at, at+long, -nodes)
						if e != api.OK || !slices.Equal(q, want) {
							t.Fatalf("Take(%v, %d, %d, %d) = %v, %d, not %v", p, at, long, nodes, q, int(e), want)
						}
					}
				}
			}
		})
	}
}

// anyProfile makes a profile by chance of at most so many steps, near and far.
func anyProfile(r *rand.Rand, most int) []api.Step {
	p := steps(0, r.Intn(9)-2)
	gap := []int{1, 2, 10, 1000, 100000}[r.Intn(5)]
	for range r.Intn(most) {
		last := p[len(p)-1]
		s := api.Step{At: last.At + 1 + r.Intn(gap), Free: r.Intn(9) - 2}
		if s.At > 1000000 {
			break
		}
		if s.Free != last.Free {
			p = append(p, s)
		}
	}
	return p
}

// anyTick makes a tick by chance: any one, one at an edge of p, one beyond the
// ends.
func anyTick(r *rand.Rand, p []api.Step) int {
	switch r.Intn(5) {
	case 0:
		return r.Intn(1000003) - 1
	case 1:
		return []int{-1, 0, 1, 999998, 999999, 1000000, 1000001, math.MaxInt, math.MinInt}[r.Intn(9)]
	default:
		return p[r.Intn(len(p))].At + r.Intn(3) - 1
	}
}

// anyLong makes by chance how long a place is: short, as from one edge of p to
// another, or as from one to the last tick, or a tick more or less.
func anyLong(r *rand.Rand, p []api.Step) int {
	switch r.Intn(5) {
	case 0, 1:
		return r.Intn(12)
	case 2:
		return 1000000 - p[r.Intn(len(p))].At + r.Intn(3) - 1
	default:
		a, b := p[r.Intn(len(p))].At, p[r.Intn(len(p))].At
		return max(a, b) - min(a, b) + r.Intn(3) - 1
	}
}

// TestAnyPlace: P11.1 and P11.3, of profiles by chance.
func TestAnyPlace(t *testing.T) {
	r := rand.New(rand.NewSource(111))
	found := 0
	for range 3000 {
		p := anyProfile(r, 30)
		for range 30 {
			from, long, nodes := anyTick(r, p), anyLong(r, p), r.Intn(8)
			if want, ok := toldEarliest(p, from, long, nodes); ok {
				earliest(t, p, from, long, nodes, want)
				found++
			} else {
				nowhere(t, p, from, long, nodes)
			}
			room := isPlace(p, from, long, nodes)
			fits(t, p, from, long, nodes, room)
			if !room {
				fails(t, p, from, long, nodes, api.ErrFree)
				continue
			}
			want, _ := profile.Add(p, from, from+long, -nodes)
			takes(t, p, from, long, nodes, want)
			for _, tick := range ticks(want, 0, long) {
				less := 0
				if from <= tick && tick < from+long {
					less = nodes
				}
				if profile.At(want, tick) != profile.At(p, tick)-less && tick <= 1000000 {
					t.Fatalf("Take(%v, %d, %d, %d) = %v, at %d", p, from, long, nodes, want, tick)
				}
			}
		}
	}
	if found < 10000 {
		t.Errorf("only %d places", found)
	}
}

// TestAnyBest: P11.2, of profiles and options by chance.
func TestAnyBest(t *testing.T) {
	r := rand.New(rand.NewSource(112))
	found := map[int]int{}
	for range 3000 {
		p := anyProfile(r, 20)
		for range 8 {
			options := []api.Alt{}
			for range r.Intn([]int{3, 8, 60}[r.Intn(3)]) {
				options = append(options, api.Alt{Nodes: r.Intn(9) - 1, Wall: anyLong(r, p)})
			}
			from, latest, grace := anyTick(r, p), anyTick(r, p), []int{-1, 0, 1, 2, 12, anyLong(r, p)}[r.Intn(6)]
			if r.Intn(2) == 0 {
				latest = 1000000
			}
			if choice, at, ok := toldBest(p, options, from, latest, grace); ok {
				best(t, p, options, from, latest, grace, choice, at)
				found[choice]++
			} else {
				none(t, p, options, from, latest, grace)
			}
		}
	}
	if found[0] < 500 || found[1] < 500 || len(found) < 30 {
		t.Errorf("only these: %v", found)
	}
}

// TestFirst: P11.4, of profiles by chance: what Earliest tells fits, and
// nothing between from and it does; with a later from it is no earlier, with
// fewer nodes, or less time, no later.
func TestFirst(t *testing.T) {
	r := rand.New(rand.NewSource(113))
	found := 0
	place := func(p []api.Step, from, long, nodes int) int {
		at, ok := Earliest(p, from, long, nodes)
		if !ok {
			return math.MaxInt
		}
		found++
		return at
	}
	for range 3000 {
		p := anyProfile(r, 20)
		from, long, nodes := r.Intn(40)-1, 1+r.Intn(20), 1+r.Intn(6)
		if r.Intn(3) == 0 {
			from, long = anyTick(r, p), anyLong(r, p)
		}
		at := place(p, from, long, nodes)
		if at < from || at != math.MaxInt && !Fits(p, at, long, nodes) {
			t.Fatalf("Earliest(%v, %d, %d, %d) = %d: no place", p, from, long, nodes, at)
		}
		for tick := max(from, 0); tick < min(at, max(from, 0)+200, 1000001); tick++ {
			if Fits(p, tick, long, nodes) {
				t.Fatalf("Earliest(%v, %d, %d, %d) = %d: %d is a place, too", p, from, long, nodes, at, tick)
			}
		}
		for tick := min(at, 1000001) - 1; tick >= max(from, 0, at-200); tick-- {
			if Fits(p, tick, long, nodes) {
				t.Fatalf("Earliest(%v, %d, %d, %d) = %d: %d is a place, too", p, from, long, nodes, at, tick)
			}
		}
		for range 10 {
			if later := from + r.Intn(1000); later >= from && place(p, later, long, nodes) < at {
				t.Fatalf("Earliest(%v, %d, %d, %d): earlier than from %d", p, later, long, nodes, from)
			}
			if nodes > 0 && place(p, from, long, 1+r.Intn(nodes)) > at {
				t.Fatalf("Earliest(%v, %d, %d, ..): with fewer nodes than %d later", p, from, long, nodes)
			}
			if long > 0 && place(p, from, 1+r.Intn(long), nodes) > at {
				t.Fatalf("Earliest(%v, %d, .., %d): with less time than %d later", p, from, nodes, long)
			}
		}
		// From itself on it is told again, and from one behind it another one.
		if at != math.MaxInt && (place(p, at, long, nodes) != at || place(p, at+1, long, nodes) <= at) {
			t.Fatalf("Earliest(%v, .., %d, %d): not %d from there on", p, long, nodes, at)
		}
	}
	if found < 20000 {
		t.Errorf("only %d places", found)
	}
}

// TestGivenBack: P11.5, of profiles by chance: what fits still fits when nodes
// are given back, wherever, and where they were taken fits just that again.
func TestGivenBack(t *testing.T) {
	r := rand.New(rand.NewSource(114))
	found := 0
	for range 6000 {
		p := anyProfile(r, 20)
		long, nodes := 1+r.Intn(20), 1+r.Intn(5)
		if r.Intn(3) == 0 {
			long = anyLong(r, p)
		}
		at, ok := Earliest(p, anyTick(r, p), long, nodes)
		if !ok {
			continue
		}
		found++
		for range 5 {
			from := min(max(anyTick(r, p), 0), 1000000)
			more, e := profile.Add(p, from, max(from, anyTick(r, p)), r.Intn(9))
			if e != api.OK || !Fits(more, at, long, nodes) {
				t.Fatalf("Fits(%v, %d, %d, %d) no more, with more than in %v: %d", more, at, long, nodes, p, int(e))
			}
			if first, ok := Earliest(more, 0, long, nodes); !ok || first > at {
				t.Fatalf("Earliest(%v, 0, %d, %d) = %d", more, long, nodes, first)
			}
		}
		q, e := Take(p, at, long, nodes)
		back, _ := profile.Add(q, at, at+long, nodes)
		if e != api.OK || !profile.Same(back, p) || !Fits(back, at, long, nodes) {
			t.Fatalf("Take(%v, %d, %d, %d) and back: %v, %d", p, at, long, nodes, back, int(e))
		}
	}
	if found < 2000 {
		t.Errorf("only %d places", found)
	}
}

// TestNeverBelow: P11.5, of places that are taken one after the other till
// there is none: nothing is below 0 where it was not, and all else is as it was.
func TestNeverBelow(t *testing.T) {
	r := rand.New(rand.NewSource(115))
	found := 0
	for range 300 {
		p := anyProfile(r, 20)
		for range 60 {
			long, nodes := 1+r.Intn(30), 1+r.Intn(4)
			choice, at, ok := Best(p, alts(nodes, long, nodes+1, (long+1)/2), r.Intn(60), 1000000, 0)
			if !ok {
				continue
			}
			if choice == 1 {
				long, nodes = (long+1)/2, nodes+1
			}
			q, e := Take(p, at, long, nodes)
			if e != api.OK {
				t.Fatalf("Take(%v, %d, %d, %d): %d", p, at, long, nodes, int(e))
			}
			for _, tick := range ticks(append(slices.Clone(p), q...), 0, 0) {
				was, now := profile.At(p, tick), profile.At(q, tick)
				if now < 0 && was >= 0 || now > was || now != was && (tick < at || tick >= at+long) {
					t.Fatalf("Take(%v, %d, %d, %d) = %v, at %d", p, at, long, nodes, q, tick)
				}
			}
			p = q
			found++
		}
	}
	if found < 10000 {
		t.Errorf("only %d places", found)
	}
}

// guarded lays a list into memory with room behind it, and tells whether all of
// that is still as it was.
func guarded[T comparable](l []T, filler T) ([]T, func() bool) {
	room := append(slices.Clone(l), slices.Repeat([]T{filler}, 9)...)
	was := slices.Clone(room)
	return room[:len(l)], func() bool { return slices.Equal(room, was) }
}

// TestHandedIn: rule 4, of all calls: what is handed in is not changed, its
// spare room neither.
func TestHandedIn(t *testing.T) {
	for _, p := range slices.Concat(good(), bad()) {
		l, whole := guarded(p, api.Step{At: 77, Free: -77})
		for _, options := range [][]api.Alt{nil, alts(1, 1), alts(0, 1, 4, 6, 1, 14, 2, 5), slices.Repeat(alts(1, 9), 60)} {
			o, wholeToo := guarded(options, api.Alt{Nodes: 1, Wall: 1})
			for _, from := range []int{-1, 0, 1, 6, 1000000} {
				for _, grace := range []int{-1, 0, 12, 1000000} {
					Best(l, o, from, 1000000, grace)
				}
			}
			if !wholeToo() {
				t.Errorf("%v was changed", head(options))
			}
		}
		for _, at := range []int{-1, 0, 1, 5, 6, 9, 999999, 1000000} {
			for _, long := range []int{0, 1, 3, 4, 1000, 999991, 1000000} {
				for _, nodes := range []int{0, 1, 2, 4, 1000000} {
					Fits(l, at, long, nodes)
					Earliest(l, at, long, nodes)
					Take(l, at, long, nodes)
				}
			}
		}
		if !whole() {
			t.Errorf("%v was changed", head(p))
		}
	}
}

// share tells whether two lists have memory in common, their spare room with it.
func share(p, q []api.Step) bool {
	p, q = p[:cap(p)], q[:cap(q)]
	if len(p) == 0 || len(q) == 0 {
		return false
	}
	begin := func(l []api.Step) uintptr { return uintptr(unsafe.Pointer(&l[0])) }
	end := func(l []api.Step) uintptr { return begin(l) + uintptr(len(l))*unsafe.Sizeof(l[0]) }
	return begin(p) < end(q) && begin(q) < end(p)
}

// TestNewMemory: rule 4, of what Take hands out.
func TestNewMemory(t *testing.T) {
	taken := 0
	for _, p := range good() {
		for _, x := range [][3]int{{0, 5, 1}, {0, 5, 3}, {1, 1, 1}, {5, 4, 1}, {9, 5, 4}, {9, 999991, 1}, {999999, 1, 4}, {0, 1000000, 1}, {3, 1, 1000000}} {
			l, whole := guarded(p, api.Step{At: 77, Free: -77})
			q, e := Take(l, x[0], x[1], x[2])
			if e != api.OK {
				continue
			}
			taken++
			again, _ := Take(l, x[0], x[1], x[2])
			want := slices.Clone(again)
			if share(q, l) || share(q, again) || !slices.Equal(q, again) {
				t.Errorf("Take(%v, %v) shares its memory", head(p), x)
			}
			// Whoever has it may do with it what he wants, and with p, too.
			q = q[:cap(q)]
			for i := range q {
				q[i] = api.Step{At: -5, Free: -5}
			}
			if !whole() || !slices.Equal(again, want) {
				t.Errorf("Take(%v, %v): changed by its answer's change", head(p), x)
			}
			for i := range l {
				l[i] = api.Step{At: -7, Free: -7}
			}
			if !slices.Equal(again, want) {
				t.Errorf("Take(%v, %v): its answer was changed with p", head(p), x)
			}
		}
	}
	if taken < 30 {
		t.Errorf("only %d places", taken)
	}
}

// TestNothingIsKept: rule 5, of calls in another order: each answers as ever.
func TestNothingIsKept(t *testing.T) {
	r := rand.New(rand.NewSource(116))
	type call struct {
		p               []api.Step
		at, long, nodes int
	}
	type answer struct {
		room, found, any     bool
		place, choice, which int
		e                    api.Errno
		steps                [4]api.Step
		n                    int
	}
	asked := func(x call) answer {
		a := answer{room: Fits(x.p, x.at, x.long, x.nodes)}
		a.place, a.found = Earliest(x.p, x.at, x.long, x.nodes)
		a.choice, a.which, a.any = Best(x.p, alts(x.nodes, x.long, 1, 20, 4, 1), x.at, 1000000, x.nodes)
		q, e := Take(x.p, x.at, x.long, x.nodes)
		a.e, a.n = e, len(q)
		copy(a.steps[:], q)
		return a
	}
	calls, answers := []call{}, []answer{}
	for _, p := range slices.Concat(good(), bad()) {
		for _, x := range [][3]int{{0, 5, 1}, {1, 5, 2}, {1, 4, 2}, {9, 1000, 4}, {-1, 3, 3}, {0, 0, 1}, {999999, 1, 1}, {1000000, 1, 1}, {0, 1000000, 1}} {
			c := call{p, x[0], x[1], x[2]}
			calls = append(calls, c)
			answers = append(answers, asked(c))
		}
	}
	for range 3 {
		for _, i := range r.Perm(len(calls)) {
			if got := asked(calls[i]); got != answers[i] {
				t.Fatalf("asked again, of %v: %v, not %v", head(calls[i].p), got, answers[i])
			}
		}
	}
}
