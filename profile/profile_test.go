package profile

import (
	"cmp"
	"math"
	"math/rand"
	"slices"
	"testing"
	"unsafe"

	"muster/api"
)

// steps makes steps of ticks and of how many are free from them on.
func steps(l ...int) []api.Step {
	p := []api.Step{}
	for i := 0; i+1 < len(l); i += 2 {
		p = append(p, api.Step{At: l[i], Free: l[i+1]})
	}
	return p
}

// far are numbers far from any tick, and from how many may be free, those
// among them that are one again where a number's higher bits are lost.
func far() []int {
	l := []int{
		math.MinInt, math.MinInt + 1, math.MinInt + 5, math.MinInt32, math.MinInt32 - 1, -1 << 32, -1<<32 + 5, -1 << 53,
		math.MaxInt, math.MaxInt - 1, math.MaxInt - 1000000, math.MaxInt32, math.MaxInt32 + 1, math.MaxUint32, 1 << 32, 1<<32 + 5, 1 << 53,
	}
	for _, n := range []int{0, 1, 5, 1000, 999999, 1000000} {
		l = append(l, n+1<<32, n-1<<32, n+1<<62, n-1<<62)
	}
	return l
}

// zigzag is a profile of n steps, one each gap ticks, by which in turn a and b
// are free.
func zigzag(n, gap, a, b int) []api.Step {
	p := []api.Step{}
	for i := range n {
		p = append(p, api.Step{At: i * gap, Free: a})
		a, b = b, a
	}
	return p
}

// isProfile tells by the chapter's words whether steps are a profile.
func isProfile(p []api.Step) bool {
	if len(p) < 1 || len(p) > 1000 {
		return false
	}
	for i, s := range p {
		if i == 0 && s.At != 0 {
			return false
		}
		if i > 0 && (p[i-1].At >= s.At || p[i-1].Free == s.Free) {
			return false
		}
		if s.At > 1000000 || s.Free < -1000000 || s.Free > 1000000 {
			return false
		}
	}
	return true
}

// toldAt tells by the chapter's words how many are free at a tick of a profile.
func toldAt(p []api.Step, t int) int {
	free := 0
	for _, s := range p {
		if s.At <= t {
			free = s.Free
		}
	}
	return free
}

// edges are the ticks at which a profile may change between from and to, and
// their neighbours, rising.
func edges(p []api.Step, more ...int) []int {
	l := []int{0, 1, 1000000}
	for _, s := range p {
		l = append(l, s.At-1, s.At, s.At+1)
	}
	for _, t := range more {
		if -1 <= t && t <= 1000001 {
			l = append(l, t-1, t, t+1)
		}
	}
	slices.Sort(l)
	l = slices.Compact(l)
	return slices.DeleteFunc(l, func(t int) bool { return t < 0 || t > 1000000 })
}

// toldLeast tells by the chapter's words what Least has to.
func toldLeast(p []api.Step, from, to int) int {
	if !isProfile(p) || from < 0 || from > 1000000 || to <= from {
		return 0
	}
	least := math.MaxInt
	for _, t := range edges(p, from, to) {
		if from <= t && t < to {
			least = min(least, toldAt(p, t))
		}
	}
	return least
}

// toldAdd tells by the chapter's words what Add has to.
func toldAdd(p []api.Step, from, to, n int) ([]api.Step, api.Errno) {
	if !isProfile(p) {
		return nil, api.ErrProfile
	}
	if from < 0 || from > 1000000 || to < from || n < -1000000 || n > 1000000 {
		return nil, api.ErrArg
	}
	q := []api.Step{}
	for _, t := range edges(p, from, to) {
		free := toldAt(p, t)
		if from <= t && t < to {
			free += n
		}
		if t == 0 || q[len(q)-1].Free != free {
			q = append(q, api.Step{At: t, Free: free})
		}
	}
	if !isProfile(q) {
		return nil, api.ErrBig
	}
	return q, api.OK
}

// anyProfile makes a profile by chance of at most so many steps, near and far.
func anyProfile(r *rand.Rand, most int) []api.Step {
	p := steps(0, r.Intn(9)-2)
	gap := []int{1, 2, 10, 1000, 100000}[r.Intn(5)]
	for range r.Intn(most) {
		last := p[len(p)-1]
		s := api.Step{At: last.At + 1 + r.Intn(gap), Free: r.Intn(9) - 2}
		if s.At > 1000000 {
			break
		}
		if s.Free != last.Free {
			p = append(p, s)
		}
	}
	return p
}

// anyTick makes a tick by chance: any one, one at an edge of p, one beyond the
// ends.
func anyTick(r *rand.Rand, p []api.Step) int {
	switch r.Intn(4) {
	case 0:
		return r.Intn(1000003) - 1
	case 1:
		return []int{-1, 0, 1, 999999, 1000000, 1000001, 1000002, math.MaxInt, math.MinInt}[r.Intn(9)]
	default:
		return p[r.Intn(len(p))].At + r.Intn(3) - 1
	}
}

// TestFlat: P10.1, of how many may be free, and of less and more.
func TestFlat(t *testing.T) {
	for n, want := range map[int]int{
		-1000000: -1000000, -999999: -999999, -48: -48, -1: -1, 0: 0, 1: 1, 4: 4, 48: 48, 999999: 999999, 1000000: 1000000,
		-1000001: -1000000, -1000002: -1000000, -2000000: -1000000, 1000001: 1000000, 1000002: 1000000, 2000000: 1000000,
	} {
		if p := Flat(n); !slices.Equal(p, steps(0, want)) {
			t.Errorf("Flat(%d) = %v", n, p)
		}
	}
	for _, n := range far() {
		want := 1000000
		if n < 0 {
			want = -1000000
		}
		p := Flat(n)
		if !slices.Equal(p, steps(0, want)) || Check(p) != api.OK {
			t.Errorf("Flat(%d) = %v", n, p)
		}
	}
	for n := -3000; n <= 3000; n++ {
		p := Flat(n)
		if !slices.Equal(p, steps(0, n)) || Check(p) != api.OK || At(p, 0) != n || At(p, 1000000) != n || Least(p, 0, 1000001) != n {
			t.Errorf("Flat(%d) = %v", n, p)
		}
	}
}

// good are profiles.
func good() [][]api.Step {
	return [][]api.Step{
		steps(0, 0), steps(0, 4), steps(0, -1), steps(0, 1000000), steps(0, -1000000),
		steps(0, 4, 5, 1, 9, 4),
		steps(0, 4, 1, 5), steps(0, 4, 1000000, 5), steps(0, 4, 999999, 5, 1000000, 4),
		// Two that are no neighbours may be the same.
		steps(0, 1, 5, 2, 9, 1), steps(0, 1, 5, 2, 9, 1, 12, 2), steps(0, 0, 1, -1, 2, 0, 3, 1, 4, 0),
		steps(0, -1000000, 1, 1000000, 2, -1000000), steps(0, 1000000, 1, -1000000),
		steps(0, 1, 1, 1000000, 2, 1), steps(0, 1, 1, -1000000, 2, 1), steps(0, 1, 1, 2, 2, 1000000), steps(0, 1, 1, 2, 2, -1000000),
		zigzag(999, 1, 1, 2), zigzag(1000, 1, 1, 2), zigzag(1000, 1001, 1, 2), zigzag(1000, 1001, -1000000, 1000000),
	}
}

// bad are steps that are no profile.
func bad() [][]api.Step {
	l := [][]api.Step{
		nil, {},
		// A first step that is not at 0.
		steps(1, 0), steps(-1, 0), steps(5, 4), steps(1000000, 4), steps(1000001, 4), steps(1, 4, 5, 1), steps(-1, 4, 5, 1), steps(-1, 4, 0, 1),
		// Ticks that are the same, that fall, that are below 0.
		steps(0, 1, 0, 2), steps(0, 0, 0, 0), steps(0, 1, 5, 2, 5, 3), steps(0, 1, 5, 2, 5, 1, 9, 2), steps(0, 1, 1000000, 2, 1000000, 3),
		steps(0, 1, 9, 2, 5, 3), steps(0, 1, 5, 2, 0, 3), steps(0, 1, 5, 2, 4, 3), steps(0, 1, 9, 2, 5, 3, 12, 4), steps(0, 1, 5, 2, 9, 3, 8, 4),
		steps(0, 1, -1, 2), steps(0, 1, -5, 2, 9, 3), steps(0, 1, 5, 2, -1, 3),
		// Beyond the last tick.
		steps(0, 1, 1000001, 2), steps(0, 1, 5, 2, 1000001, 3), steps(0, 1, 1000000, 2, 1000001, 3), steps(0, 1, 1000001, 2, 5, 3), steps(0, 1, 2000000, 2),
		// Neighbours by which as many are free.
		steps(0, 1, 5, 1), steps(0, 0, 5, 0), steps(0, 1, 5, 2, 9, 2), steps(0, 1, 5, 1, 9, 2), steps(0, -1, 1000000, -1), steps(0, 1, 5, 2, 9, 2, 12, 1),
		// Too many free, or too few.
		steps(0, 1000001), steps(0, -1000001), steps(0, 1, 5, 1000001), steps(0, 1, 5, -1000001), steps(0, 1000001, 5, 1), steps(0, -1000001, 5, 1),
		steps(0, 1, 5, 1000001, 9, 2), steps(0, 1, 5, -1000001, 9, 2), steps(0, 1, 1000000, 1000001), steps(0, 2000000, 5, -2000000),
		// Too many steps.
		zigzag(1001, 1, 1, 2), zigzag(1001, 1000, 1, 2), zigzag(1002, 1, 1, 2), zigzag(2000, 1, 1, 2), zigzag(1<<20, 1, 1, 2), make([]api.Step, 1<<20),
		// More than one of these.
		steps(1, 1000001), steps(0, 1, 0, 1), steps(0, 1, 1000001, 1000001), zigzag(1001, 0, 1, 1), zigzag(1001, -1, 1, 1000001),
	}
	for _, n := range far() {
		l = append(l, steps(n, 4), steps(n, 4, 5, 1), steps(0, 4, n, 1), steps(0, 4, 5, 1, n, 2), steps(0, 4, n, 1, 5, 2), steps(0, n), steps(0, 4, 5, n), steps(0, n, 5, 4))
		if n > 1000000 {
			l = append(l, steps(0, 4, n-1, 1, n, 2))
		} else {
			l = append(l, steps(n, 4, 0, 1), steps(n, 4, n+1, 1))
		}
	}
	return l
}

// TestCheck: P10.1, of profiles, and of steps that are none.
func TestCheck(t *testing.T) {
	for _, p := range good() {
		if e := Check(p); e != api.OK || !isProfile(p) {
			t.Errorf("Check(%v) = %d", p, int(e))
		}
	}
	for _, p := range bad() {
		if e := Check(p); e != api.ErrProfile || isProfile(p) {
			t.Errorf("Check(%v) = %d", p[:min(len(p), 5)], int(e))
		}
	}
}

// TestCheckEachStep: P10.1, of profiles of which one step is spoilt.
func TestCheckEachStep(t *testing.T) {
	for _, n := range []int{1, 2, 3, 4, 999, 1000} {
		p := zigzag(n, 10, 4, 7)
		if e := Check(p); e != api.OK {
			t.Fatalf("Check of %d steps = %d", n, int(e))
		}
		for i := range p {
			spoilt := []api.Step{{At: p[i].At, Free: 1000001}, {At: p[i].At, Free: -1000001}, {At: -1, Free: p[i].Free}, {At: 1000001, Free: p[i].Free}}
			may := []api.Step{{At: p[i].At, Free: 1000000}, {At: p[i].At, Free: -1000000}}
			if i == 0 {
				spoilt = append(spoilt, api.Step{At: 1, Free: 4})
			} else {
				spoilt = append(spoilt, api.Step{At: p[i-1].At, Free: p[i].Free}, api.Step{At: p[i-1].At - 1, Free: p[i].Free}, api.Step{At: p[i].At, Free: p[i-1].Free})
				may = append(may, api.Step{At: p[i-1].At + 1, Free: p[i].Free})
			}
			if i+1 < len(p) {
				spoilt = append(spoilt, api.Step{At: p[i+1].At, Free: p[i].Free}, api.Step{At: p[i+1].At + 1, Free: p[i].Free}, api.Step{At: p[i].At, Free: p[i+1].Free})
			} else if i > 0 {
				may = append(may, api.Step{At: 1000000, Free: p[i].Free})
			}
			for _, s := range spoilt {
				q := slices.Clone(p)
				q[i] = s
				if e := Check(q); e != api.ErrProfile {
					t.Errorf("Check of %d steps, at %d %v: %d", n, i, s, int(e))
				}
			}
			for _, s := range may {
				q := slices.Clone(p)
				q[i] = s
				if e := Check(q); e != api.OK {
					t.Errorf("Check of %d steps, at %d %v: %d", n, i, s, int(e))
				}
			}
		}
	}
}

// each goes through all lists of up to most steps of these ticks and numbers.
func each(most int, ticks, frees []int, visit func([]api.Step)) {
	var grow func(p []api.Step)
	grow = func(p []api.Step) {
		visit(p)
		if len(p) == most {
			return
		}
		for _, at := range ticks {
			for _, free := range frees {
				grow(append(slices.Clip(p), api.Step{At: at, Free: free}))
			}
		}
	}
	grow(nil)
}

// TestCheckAll: P10.1, of all short lists of some steps.
func TestCheckAll(t *testing.T) {
	checked := func(p []api.Step) {
		want := api.OK
		if !isProfile(p) {
			want = api.ErrProfile
		}
		if e := Check(p); e != want {
			t.Errorf("Check(%v) = %d", p, int(e))
		}
	}
	each(3, []int{-1, 0, 1, 2, 1000000, 1000001}, []int{-1000001, -1000000, 0, 1, 1000000, 1000001}, checked)
	each(4, []int{0, 1, 1000000, 1000001}, []int{0, 1, 1000000}, checked)
	each(5, []int{0, 1, 2}, []int{0, 1}, checked)
}

// TestAt: P10.2, of profiles told by hand.
func TestAt(t *testing.T) {
	for _, x := range []struct {
		p    []api.Step
		t    int
		want int
	}{
		{steps(0, 4), -1, 0}, {steps(0, 4), 0, 4}, {steps(0, 4), 1, 4}, {steps(0, 4), 999999, 4}, {steps(0, 4), 1000000, 4}, {steps(0, 4), 1000001, 0},
		// The chapter's example.
		{steps(0, 4, 5, 1, 9, 4), -1, 0},
		{steps(0, 4, 5, 1, 9, 4), 0, 4},
		{steps(0, 4, 5, 1, 9, 4), 1, 4},
		{steps(0, 4, 5, 1, 9, 4), 4, 4},
		{steps(0, 4, 5, 1, 9, 4), 5, 1},
		{steps(0, 4, 5, 1, 9, 4), 6, 1},
		{steps(0, 4, 5, 1, 9, 4), 8, 1},
		{steps(0, 4, 5, 1, 9, 4), 9, 4},
		{steps(0, 4, 5, 1, 9, 4), 10, 4},
		{steps(0, 4, 5, 1, 9, 4), 1000000, 4},
		{steps(0, 4, 5, 1, 9, 4), 1000001, 0},
		// Below 0, and ends.
		{steps(0, -3, 1, -1000000, 2, 1000000), 0, -3},
		{steps(0, -3, 1, -1000000, 2, 1000000), 1, -1000000},
		{steps(0, -3, 1, -1000000, 2, 1000000), 2, 1000000},
		{steps(0, 4, 1000000, 7), 999999, 4},
		{steps(0, 4, 1000000, 7), 1000000, 7},
		{steps(0, 4, 1000000, 7), 1000001, 0},
		{steps(0, 4, 999999, 7), 999998, 4},
		{steps(0, 4, 999999, 7), 999999, 7},
		{steps(0, 4, 999999, 7), 1000000, 7},
		// The first and the last of the most steps.
		{zigzag(1000, 1, 4, 7), 0, 4},
		{zigzag(1000, 1, 4, 7), 998, 4},
		{zigzag(1000, 1, 4, 7), 999, 7},
		{zigzag(1000, 1, 4, 7), 1000, 7},
	} {
		if got := At(x.p, x.t); got != x.want {
			t.Errorf("At(%v, %d) = %d, not %d", x.p[:min(len(x.p), 5)], x.t, got, x.want)
		}
	}
	for _, p := range good() {
		for _, n := range far() {
			if got := At(p, n); got != 0 {
				t.Errorf("At(%v, %d) = %d", p[:min(len(p), 5)], n, got)
			}
		}
		for _, n := range edges(p) {
			if got, want := At(p, n), toldAt(p, n); got != want {
				t.Errorf("At(%v, %d) = %d, not %d", p[:min(len(p), 5)], n, got, want)
			}
		}
	}
}

// TestLeast: P10.2, of profiles told by hand.
func TestLeast(t *testing.T) {
	example := steps(0, 4, 5, 1, 9, 4)
	last := steps(0, 4, 9, 6, 1000000, 2)
	for _, x := range []struct {
		p              []api.Step
		from, to, want int
	}{
		// The chapter's example.
		{example, 3, 6, 1},
		// From.
		{example, -1, 6, 0}, {example, 0, 6, 1}, {example, -1, 3, 0}, {example, 0, 3, 4},
		{example, 1000000, 1000001, 4}, {example, 1000000, 2000000, 4}, {example, 1000001, 1000002, 0}, {example, 1000001, 2000000, 0},
		// To: at from, below it, one above it.
		{example, 3, 3, 0}, {example, 3, 2, 0}, {example, 3, -1, 0}, {example, 3, 4, 4}, {example, 0, 0, 0}, {example, 0, 1, 4}, {example, 0, -1, 0},
		{example, 5, 5, 0}, {example, 5, 4, 0}, {example, 5, 6, 1}, {example, 9, 9, 0}, {example, 9, 10, 4}, {example, 1000000, 1000000, 0}, {example, 1000000, 999999, 0},
		// To: at a step, and one behind it.
		{example, 3, 5, 4}, {example, 4, 5, 4}, {example, 4, 6, 1}, {example, 0, 5, 4}, {example, 8, 9, 1}, {example, 8, 10, 1}, {example, 5, 9, 1}, {example, 5, 10, 1},
		{example, 9, 1000000, 4}, {example, 8, 1000000, 1}, {example, 10, 20, 4},
		// To: at the last tick, one more, far beyond it.
		{last, 0, 1000000, 4}, {last, 0, 1000001, 2}, {last, 0, 1000002, 2}, {last, 0, math.MaxInt, 2},
		{last, 9, 1000000, 6}, {last, 9, 1000001, 2}, {last, 9, math.MaxInt, 2},
		{last, 999999, 1000000, 6}, {last, 999999, 1000001, 2}, {last, 1000000, 1000001, 2}, {last, 1000000, math.MaxInt, 2}, {last, 1000001, math.MaxInt, 0},
		// One step, less than none, the ends of what may be free.
		{steps(0, 4), 0, 1000001, 4}, {steps(0, -4), 0, 1, -4}, {steps(0, -1, 5, -3, 9, -2), 0, 20, -3}, {steps(0, 0, 5, -1), 0, 5, 0}, {steps(0, 0, 5, -1), 0, 6, -1},
		{steps(0, 1000000), 5, 7, 1000000}, {steps(0, -1000000), 5, 7, -1000000}, {steps(0, 1000000, 5, -1000000), 4, 6, -1000000}, {steps(0, 1000000, 5, 999999), 4, 6, 999999},
		// The least one first, last, between.
		{steps(0, 1, 5, 2, 9, 3), 0, 20, 1}, {steps(0, 1, 5, 2, 9, 3), 5, 20, 2}, {steps(0, 3, 5, 2, 9, 1), 0, 20, 1}, {steps(0, 3, 5, 2, 9, 1), 0, 9, 2}, {steps(0, 3, 5, 1, 9, 2), 0, 20, 1},
	} {
		if got := Least(x.p, x.from, x.to); got != x.want || toldLeast(x.p, x.from, x.to) != x.want {
			t.Errorf("Least(%v, %d, %d) = %d, not %d", x.p, x.from, x.to, got, x.want)
		}
	}
	for _, n := range far() {
		for _, to := range append(far(), -1, 0, 5, 1000000, 1000001) {
			if got := Least(example, n, to); got != 0 {
				t.Errorf("Least from %d to %d = %d", n, to, got)
			}
		}
		for from, want := range map[int]int{0: 1, 5: 1, 8: 1, 9: 4, 1000000: 4} {
			if n < 0 {
				want = 0
			}
			if got := Least(example, from, n); got != want {
				t.Errorf("Least from %d to %d = %d", from, n, got)
			}
		}
	}
}

// TestAnyLeast: P10.2, of profiles by chance.
func TestAnyLeast(t *testing.T) {
	r := rand.New(rand.NewSource(101))
	for range 3000 {
		p := anyProfile(r, 30)
		for range 30 {
			from, to := anyTick(r, p), anyTick(r, p)
			if got, want := Least(p, from, to), toldLeast(p, from, to); got != want {
				t.Fatalf("Least(%v, %d, %d) = %d, not %d", p, from, to, got, want)
			}
		}
		for _, n := range edges(p) {
			if got, want := At(p, n), toldAt(p, n); got != want || Least(p, n, n+1) != want {
				t.Fatalf("At(%v, %d) = %d, not %d", p, n, got, want)
			}
		}
	}
}

// TestNoProfile: P10.2 and P10.3, of steps that are no profile: at no tick is
// anything free, and to none anything is added, whatever the arguments are.
func TestNoProfile(t *testing.T) {
	for _, p := range bad() {
		for _, n := range []int{math.MinInt, -1, 0, 1, 5, 9, 1000000, 1000001, math.MaxInt} {
			if got := At(p, n); got != 0 {
				t.Errorf("At(%v, %d) = %d", p[:min(len(p), 5)], n, got)
			}
			for _, to := range []int{math.MinInt, -1, 0, 1, 6, 1000000, 1000001, math.MaxInt} {
				if got := Least(p, n, to); got != 0 {
					t.Errorf("Least(%v, %d, %d) = %d", p[:min(len(p), 5)], n, to, got)
				}
				for _, more := range []int{-1000001, 0, 1, 1000001} {
					if q, e := Add(p, n, to, more); len(q) != 0 || e != api.ErrProfile {
						t.Errorf("Add(%v, %d, %d, %d) = %v, %d", p[:min(len(p), 5)], n, to, more, q, int(e))
					}
				}
			}
		}
	}
}

// add asks Add for want.
func add(t *testing.T, p []api.Step, from, to, n int, want []api.Step) {
	t.Helper()
	q, e := Add(p, from, to, n)
	if e != api.OK || !slices.Equal(q, want) || !Same(q, want) {
		t.Errorf("Add(%v, %d, %d, %d) = %v, %d, not %v", p, from, to, n, q, int(e), want)
	}
	if model, e := toldAdd(p, from, to, n); e != api.OK || !slices.Equal(model, want) {
		t.Errorf("by the chapter Add(%v, %d, %d, %d) = %v, %d, not %v", p, from, to, n, model, int(e), want)
	}
}

// fails asks Add for an error.
func fails(t *testing.T, p []api.Step, from, to, n int, want api.Errno) {
	t.Helper()
	if q, e := Add(p, from, to, n); e != want || len(q) != 0 {
		t.Errorf("Add(%v, %d, %d, %d) = %v, %d, not %d", p[:min(len(p), 5)], from, to, n, q, int(e), int(want))
	}
	if q, e := toldAdd(p, from, to, n); e != want || len(q) != 0 {
		t.Errorf("by the chapter Add(%v, %d, %d, %d) = %v, %d, not %d", p[:min(len(p), 5)], from, to, n, q, int(e), int(want))
	}
}

// TestAdd: P10.3, of profiles told by hand.
func TestAdd(t *testing.T) {
	flat := Flat(4)
	// The chapter's example.
	add(t, flat, 5, 9, -3, steps(0, 4, 5, 1, 9, 4))
	// To a profile that has no change.
	add(t, flat, 0, 9, -3, steps(0, 1, 9, 4))
	add(t, flat, 0, 1, 3, steps(0, 7, 1, 4))
	add(t, flat, 1, 2, 3, steps(0, 4, 1, 7, 2, 4))
	add(t, flat, 0, 1000000, 3, steps(0, 7, 1000000, 4))
	add(t, flat, 0, 1000001, 3, steps(0, 7))
	add(t, flat, 5, 1000000, 3, steps(0, 4, 5, 7, 1000000, 4))
	add(t, flat, 5, 1000001, 3, steps(0, 4, 5, 7))
	add(t, flat, 5, 1000002, 3, steps(0, 4, 5, 7))
	add(t, flat, 5, 1<<40, 3, steps(0, 4, 5, 7))
	add(t, flat, 5, math.MaxInt, 3, steps(0, 4, 5, 7))
	add(t, flat, 999999, 1000000, 3, steps(0, 4, 999999, 7, 1000000, 4))
	add(t, flat, 999999, 1000001, 3, steps(0, 4, 999999, 7))
	add(t, flat, 1000000, 1000001, 3, steps(0, 4, 1000000, 7))
	add(t, flat, 1000000, math.MaxInt, 3, steps(0, 4, 1000000, 7))
	// Less than none.
	add(t, flat, 5, 9, -7, steps(0, 4, 5, -3, 9, 4))
	add(t, flat, 0, math.MaxInt, -4, steps(0, 0))
	add(t, flat, 0, math.MaxInt, -5, steps(0, -1))
	p := steps(0, 4, 5, 1, 9, 3)
	// Ahead of the first change, and behind the last one.
	add(t, p, 0, 2, 1, steps(0, 5, 2, 4, 5, 1, 9, 3))
	add(t, p, 2, 4, 1, steps(0, 4, 2, 5, 4, 4, 5, 1, 9, 3))
	add(t, p, 12, 20, 1, steps(0, 4, 5, 1, 9, 3, 12, 4, 20, 3))
	add(t, p, 12, math.MaxInt, 1, steps(0, 4, 5, 1, 9, 3, 12, 4))
	// From a step, up to one, both, and with one between.
	add(t, p, 5, 7, 1, steps(0, 4, 5, 2, 7, 1, 9, 3))
	add(t, p, 7, 9, 1, steps(0, 4, 5, 1, 7, 2, 9, 3))
	add(t, p, 5, 9, 1, steps(0, 4, 5, 2, 9, 3))
	add(t, p, 6, 8, 1, steps(0, 4, 5, 1, 6, 2, 8, 1, 9, 3))
	add(t, p, 9, 12, 1, steps(0, 4, 5, 1, 9, 4, 12, 3))
	add(t, p, 2, 5, 1, steps(0, 4, 2, 5, 5, 1, 9, 3))
	add(t, p, 0, 5, 1, steps(0, 5, 5, 1, 9, 3))
	add(t, p, 0, 9, 1, steps(0, 5, 5, 2, 9, 3))
	add(t, p, 2, 7, 1, steps(0, 4, 2, 5, 5, 2, 7, 1, 9, 3))
	add(t, p, 7, 12, 1, steps(0, 4, 5, 1, 7, 2, 9, 4, 12, 3))
	add(t, p, 2, 12, 1, steps(0, 4, 2, 5, 5, 2, 9, 4, 12, 3))
	add(t, p, 4, 6, 1, steps(0, 4, 4, 5, 5, 2, 6, 1, 9, 3))
	add(t, p, 0, math.MaxInt, 1, steps(0, 5, 5, 2, 9, 4))
	add(t, p, 9, math.MaxInt, 1, steps(0, 4, 5, 1, 9, 4))
	add(t, p, 5, math.MaxInt, 1, steps(0, 4, 5, 2, 9, 4))
	// A step that comes to be as its neighbour goes: at the beginning, ...
	add(t, p, 5, 7, 3, steps(0, 4, 7, 1, 9, 3))
	add(t, p, 9, 12, -2, steps(0, 4, 5, 1, 12, 3))
	add(t, p, 9, math.MaxInt, -2, steps(0, 4, 5, 1))
	// ... at the end, ...
	add(t, p, 7, 9, 2, steps(0, 4, 5, 1, 7, 3))
	add(t, p, 2, 5, -3, steps(0, 4, 2, 1, 9, 3))
	add(t, p, 0, 5, -3, steps(0, 1, 9, 3))
	add(t, p, 0, 9, 2, steps(0, 6, 5, 3))
	// ... with the one behind it ...
	add(t, p, 5, 9, 2, steps(0, 4, 5, 3))
	add(t, p, 5, 9, 3, steps(0, 4, 9, 3))
	add(t, p, 5, 12, 3, steps(0, 4, 9, 6, 12, 3))
	// ... and at both.
	add(t, steps(0, 4, 5, 1, 9, 4), 5, 9, 3, steps(0, 4))
	add(t, steps(0, 4, 5, 1, 9, 4, 12, 2), 5, 9, 3, steps(0, 4, 12, 2))
	add(t, steps(0, 4, 5, 1, 1000000, 4), 5, 1000000, 3, steps(0, 4))
	add(t, steps(0, 4, 5, 2, 7, 1, 9, 3), 5, 9, 2, steps(0, 4, 7, 3))
	add(t, steps(0, 4, 5, 1, 7, 2, 9, 5), 5, 9, 3, steps(0, 4, 7, 5))
	// What another one did is undone.
	add(t, steps(0, 4, 5, 1), 5, math.MaxInt, 3, steps(0, 4))
	add(t, steps(0, 4, 1000000, 1), 1000000, 1000001, 3, steps(0, 4))
	add(t, steps(0, 1, 9, 4), 0, 9, 3, steps(0, 4))
	// None is added.
	for _, p := range good() {
		for _, at := range []int{0, 1, 5, 7, 9, 999999, 1000000} {
			for _, n := range []int{-1000000, -1, 0, 1, 1000000} {
				add(t, p, at, at, n, p)
			}
			for _, to := range []int{at, at + 1, at + 5, 1000000 + at, math.MaxInt} {
				add(t, p, at, to, 0, p)
			}
		}
	}
}

// TestAddArg: P10.3, of arguments that may not be, also where the sum would be
// too much.
func TestAddArg(t *testing.T) {
	for _, p := range [][]api.Step{Flat(4), Flat(1000000), Flat(-1000000), steps(0, 4, 5, 1, 9, 4), zigzag(1000, 1, 1000000, -1000000)} {
		for _, more := range []int{-1000000, -1, 0, 1, 1000000} {
			fails(t, p, -1, 5, more, api.ErrArg)
			fails(t, p, -1, -1, more, api.ErrArg)
			fails(t, p, -1, 0, more, api.ErrArg)
			fails(t, p, 1000001, 1000001, more, api.ErrArg)
			fails(t, p, 1000001, 1000002, more, api.ErrArg)
			fails(t, p, 1000001, math.MaxInt, more, api.ErrArg)
			fails(t, p, 5, 4, more, api.ErrArg)
			fails(t, p, 5, 0, more, api.ErrArg)
			fails(t, p, 5, -1, more, api.ErrArg)
			fails(t, p, 0, -1, more, api.ErrArg)
			fails(t, p, 1000000, 999999, more, api.ErrArg)
			fails(t, p, 1000000, 0, more, api.ErrArg)
			fails(t, p, 0, math.MinInt, more, api.ErrArg)
		}
		for _, more := range []int{-1000001, 1000001, -1000002, 1000002, -2000000, 2000000} {
			fails(t, p, 0, 5, more, api.ErrArg)
			fails(t, p, 5, 5, more, api.ErrArg)
			fails(t, p, 0, math.MaxInt, more, api.ErrArg)
			fails(t, p, -1, 5, more, api.ErrArg)
			fails(t, p, 5, 4, more, api.ErrArg)
		}
		for _, n := range far() {
			fails(t, p, n, math.MaxInt, 1, api.ErrArg)
			fails(t, p, n, n, 1, api.ErrArg)
			fails(t, p, n, 5, 1, api.ErrArg)
			fails(t, p, 0, 5, n, api.ErrArg)
			fails(t, p, 5, 5, n, api.ErrArg)
			if n < 0 {
				fails(t, p, 0, n, 1, api.ErrArg)
				fails(t, p, 1000000, n, 1, api.ErrArg)
			} else {
				add(t, steps(0, 4, 5, 1, 9, 4), 7, n, 1, steps(0, 4, 5, 1, 7, 2, 9, 5))
			}
		}
	}
}

// TestAddFree: P10.3, of what may be free at the most, and at the least.
func TestAddFree(t *testing.T) {
	add(t, Flat(999999), 0, math.MaxInt, 1, Flat(1000000))
	fails(t, Flat(1000000), 0, math.MaxInt, 1, api.ErrBig)
	add(t, Flat(-999999), 0, math.MaxInt, -1, Flat(-1000000))
	fails(t, Flat(-1000000), 0, math.MaxInt, -1, api.ErrBig)
	add(t, Flat(0), 0, math.MaxInt, 1000000, Flat(1000000))
	fails(t, Flat(1), 0, math.MaxInt, 1000000, api.ErrBig)
	add(t, Flat(0), 0, math.MaxInt, -1000000, Flat(-1000000))
	fails(t, Flat(-1), 0, math.MaxInt, -1000000, api.ErrBig)
	add(t, Flat(-1000000), 0, math.MaxInt, 1000000, Flat(0))
	add(t, Flat(1000000), 0, math.MaxInt, -1000000, Flat(0))
	fails(t, Flat(1000000), 0, math.MaxInt, 1000000, api.ErrBig)
	fails(t, Flat(-1000000), 0, math.MaxInt, -1000000, api.ErrBig)
	// At one tick alone.
	for _, at := range []int{0, 1, 5, 999999, 1000000} {
		if at > 0 && at < 1000000 {
			add(t, Flat(999999), at, at+1, 1, steps(0, 999999, at, 1000000, at+1, 999999))
			add(t, Flat(-999999), at, at+1, -1, steps(0, -999999, at, -1000000, at+1, -999999))
		}
		fails(t, Flat(1000000), at, at+1, 1, api.ErrBig)
		fails(t, Flat(999999), at, at+1, 2, api.ErrBig)
		fails(t, Flat(-1000000), at, at+1, -1, api.ErrBig)
		fails(t, Flat(-999999), at, at+1, -2, api.ErrBig)
		add(t, Flat(1000000), at, at, 1, Flat(1000000))
		add(t, Flat(-1000000), at, at, -1, Flat(-1000000))
	}
	p := steps(0, 5, 9, 999990, 12, 7)
	add(t, p, 0, 1000001, 10, steps(0, 15, 9, 1000000, 12, 17))
	fails(t, p, 0, 1000001, 11, api.ErrBig)
	fails(t, p, 0, 10, 11, api.ErrBig)
	fails(t, p, 11, 12, 11, api.ErrBig)
	fails(t, p, 11, 1000001, 11, api.ErrBig)
	fails(t, p, 9, 12, 11, api.ErrBig)
	// Not where as many are free.
	add(t, p, 0, 9, 11, steps(0, 16, 9, 999990, 12, 7))
	add(t, p, 12, 1000001, 11, steps(0, 5, 9, 999990, 12, 18))
	p = steps(0, 5, 9, -999990, 12, 7)
	add(t, p, 0, 1000001, -10, steps(0, -5, 9, -1000000, 12, -3))
	fails(t, p, 0, 1000001, -11, api.ErrBig)
	fails(t, p, 0, 10, -11, api.ErrBig)
	fails(t, p, 11, 12, -11, api.ErrBig)
	add(t, p, 0, 9, -11, steps(0, -6, 9, -999990, 12, 7))
	add(t, p, 12, 1000001, -11, steps(0, 5, 9, -999990, 12, -4))
	// At the last tick alone, which is the last step's.
	p = steps(0, 5, 1000000, 1000000)
	fails(t, p, 0, 1000001, 1, api.ErrBig)
	fails(t, p, 1000000, 1000001, 1, api.ErrBig)
	add(t, p, 0, 1000000, 1, steps(0, 6, 1000000, 1000000))
}

// TestAddSteps: P10.3, of the most steps, and of one more.
func TestAddSteps(t *testing.T) {
	for _, gap := range []int{3, 1001} {
		for _, x := range []struct {
			n, from, to, more int
			// How many steps it comes to.
			want int
		}{
			// Two more.
			{997, 1, 2, 1, 999}, {998, 1, 2, 1, 1000}, {999, 1, 2, 1, 1001}, {1000, 1, 2, 1, 1002},
			// Begun at a step, or ended at one: one more.
			{998, 0, 1, 1, 999}, {999, 0, 1, 1, 1000}, {1000, 0, 1, 1, 1001},
			{998, 1, gap, 1, 999}, {999, 1, gap, 1, 1000}, {1000, 1, gap, 1, 1001},
			{999, 1, 10 * gap, 1, 1000}, {1000, 1, 10 * gap, 1, 1001}, {999, gap, gap + 1, 1, 1000}, {1000, gap, gap + 1, 1, 1001},
			{999, 1, math.MaxInt, 1, 1000}, {1000, 1, math.MaxInt, 1, 1001}, {999, 998*gap + 1, math.MaxInt, 1, 1000}, {1000, 999*gap + 1, math.MaxInt, 1, 1001},
			// Both: as many.
			{1000, 0, gap, 1, 1000}, {1000, 0, 999 * gap, 1, 1000}, {1000, 7 * gap, 9 * gap, 1, 1000}, {1000, 0, math.MaxInt, 1, 1000}, {1000, 999 * gap, math.MaxInt, 1, 1000},
			// As its neighbour: one less, while there comes another one.
			{1000, gap, gap + 1, -10, 1000}, {1000, 1, gap, 10, 1000}, {1000, 998 * gap, 998*gap + 1, 10, 1000}, {1000, 999 * gap, 999*gap + 1, -10, 1000},
			{1000, 0, gap, 10, 999}, {1000, gap, 2 * gap, -10, 998}, {1000, 999 * gap, math.MaxInt, -10, 999}, {1000, gap, 3 * gap, -10, 999},
			// None.
			{1000, 1, 1, 1, 1000}, {1000, 1, 2, 0, 1000}, {1000, 1000000, 1000000, 1, 1000}, {1000, 1000000, 1000001, 1, 1001}, {999, 1000000, 1000001, 1, 1000},
		} {
			p := zigzag(x.n, gap, 10, 20)
			q, e := Add(p, x.from, x.to, x.more)
			want, wantE := toldAdd(p, x.from, x.to, x.more)
			if e != wantE || !slices.Equal(q, want) {
				t.Errorf("Add to %d steps, %d apart, %d, %d, %d: %d steps, %d", x.n, gap, x.from, x.to, x.more, len(q), int(e))
			}
			if x.want > 1000 && e != api.ErrBig || x.want <= 1000 && len(q) != x.want {
				t.Errorf("Add to %d steps, %d apart, %d, %d, %d: %d steps, %d, not %d", x.n, gap, x.from, x.to, x.more, len(q), int(e), x.want)
			}
		}
	}
}

// window is a profile as a list: of how many are free at each tick from first
// on, while they are as at the window's end from there on, and as at its first
// tick ahead of it.
func window(first int, frees []int) []api.Step {
	p := steps(0, frees[0])
	for i, free := range frees {
		if p[len(p)-1].Free != free {
			p = append(p, api.Step{At: first + i, Free: free})
		}
	}
	return p
}

// eachRow goes through all rows of n of these numbers.
func eachRow(n int, frees []int, visit func([]int)) {
	row := make([]int, n)
	var fill func(i int)
	fill = func(i int) {
		if i == n {
			visit(row)
			return
		}
		for _, free := range frees {
			row[i] = free
			fill(i + 1)
		}
	}
	fill(0)
}

// TestAllSmall: P10.2, P10.3 and P10.6, of all profiles of the first ticks, and
// of the last ones, tick by tick.
func TestAllSmall(t *testing.T) {
	const n = 5
	for _, first := range []int{0, 1000001 - n} {
		eachRow(n, []int{-1, 0, 2}, func(row []int) {
			p := window(first, row)
			for i, free := range row {
				if At(p, first+i) != free {
					t.Fatalf("At(%v, %d) = %d", p, first+i, At(p, first+i))
				}
			}
			for from := range n {
				for to := from; to <= n; to++ {
					want := 0
					if to > from {
						want = slices.Min(row[from:to])
					}
					if got := Least(p, first+from, first+to); got != want {
						t.Fatalf("Least(%v, %d, %d) = %d", p, first+from, first+to, got)
					}
					for _, more := range []int{-3, -1, 0, 1, 2} {
						// What is at the window's beginning is ahead of it, too, unless it is changed.
						sum := append([]int{row[0]}, row...)
						for i := from; i < to; i++ {
							sum[1+i] += more
						}
						want := window(first-1, sum)
						if first == 0 {
							want = window(0, sum[1:])
						}
						// Behind the first window all is as at its last tick ahead of this.
						if first == 0 && to == n && to > from && more != 0 {
							want = window(0, append(sum[1:], row[n-1]))
						}
						add(t, p, first+from, first+to, more, want)
					}
				}
			}
		})
	}
}

// TestAnyAdd: P10.3 and P10.6, of profiles by chance: At behind Add tells just
// what is said.
func TestAnyAdd(t *testing.T) {
	r := rand.New(rand.NewSource(102))
	for range 20000 {
		p := anyProfile(r, 20)
		from, to, n := anyTick(r, p), anyTick(r, p), r.Intn(11)-5
		if r.Intn(20) == 0 {
			n = []int{-1000001, -1000000, 1000000, 1000001}[r.Intn(4)]
		}
		q, e := Add(p, from, to, n)
		want, wantE := toldAdd(p, from, to, n)
		if e != wantE || !slices.Equal(q, want) {
			t.Fatalf("Add(%v, %d, %d, %d) = %v, %d, not %v, %d", p, from, to, n, q, int(e), want, int(wantE))
		}
		if e != api.OK {
			continue
		}
		if Check(q) != api.OK {
			t.Fatalf("Add(%v, %d, %d, %d) = %v", p, from, to, n, q)
		}
		for _, tick := range edges(append(slices.Clone(p), q...), from, to) {
			want := At(p, tick)
			if from <= tick && tick < to {
				want += n
			}
			if got := At(q, tick); got != want {
				t.Fatalf("At(Add(%v, %d, %d, %d), %d) = %d, not %d", p, from, to, n, tick, got, want)
			}
		}
	}
}

// TestEachTick: P10.3 and P10.6, of a profile all of whose ticks are asked.
func TestEachTick(t *testing.T) {
	rows := make([]int, 1000001)
	p := Flat(7)
	for i := range rows {
		rows[i] = 7
	}
	r := rand.New(rand.NewSource(103))
	for range 20 {
		from, to, n := r.Intn(1000001), r.Intn(1000100), r.Intn(5)-2
		if to < from {
			from, to = to, from
		}
		q, e := Add(p, from, to, n)
		if e != api.OK {
			t.Fatal(int(e))
		}
		p = q
		for i := from; i < min(to, len(rows)); i++ {
			rows[i] += n
		}
	}
	for i, want := range rows {
		if got := At(p, i); got != want {
			t.Fatalf("At %d: %d, not %d", i, got, want)
		}
	}
	want := window(0, rows)
	if !slices.Equal(p, want) || Least(p, 0, 1000001) != slices.Min(rows) {
		t.Errorf("%v, not %v", p, want)
	}
}

// deed is one call of Add.
type deed struct{ from, to, n int }

// done tells what a profile comes to by deeds, one after the other.
func done(t *testing.T, p []api.Step, l ...deed) []api.Step {
	t.Helper()
	for _, x := range l {
		q, e := Add(p, x.from, x.to, x.n)
		if e != api.OK {
			t.Fatalf("Add(%v, %v) = %d", p, x, int(e))
		}
		p = q
	}
	return p
}

// TestOrder: P10.5, of what is added in any order.
func TestOrder(t *testing.T) {
	r := rand.New(rand.NewSource(104))
	for range 3000 {
		p := anyProfile(r, 12)
		l := []deed{}
		for range 1 + r.Intn(7) {
			from, to := r.Intn(1000001), r.Intn(1000005)
			if r.Intn(3) > 0 {
				from, to = p[r.Intn(len(p))].At, p[r.Intn(len(p))].At+r.Intn(3)
			}
			l = append(l, deed{min(from, to, 1000000), max(from, to), r.Intn(9) - 4})
		}
		want := done(t, p, l...)
		for range 4 {
			r.Shuffle(len(l), func(i, k int) { l[i], l[k] = l[k], l[i] })
			if got := done(t, p, l...); !Same(got, want) {
				t.Fatalf("of %v %v: %v, not %v", p, l, got, want)
			}
		}
		// A sum is as its parts, and a stretch as its halves.
		x := l[0]
		half := x.from + (x.to-x.from)/2
		if got := done(t, p, deed{x.from, min(half, 1000000), x.n}, deed{min(half, 1000000), x.to, x.n}); !Same(got, done(t, p, x)) {
			t.Fatalf("of %v %v in halves: %v", p, x, got)
		}
		if got := done(t, p, deed{x.from, x.to, x.n + 5}, deed{x.from, x.to, -5}); !Same(got, done(t, p, x)) {
			t.Fatalf("of %v %v in parts: %v", p, x, got)
		}
	}
}

// TestTakenAgain: P10.5, of what is added and taken again, also with others
// between, and where nothing more fits.
func TestTakenAgain(t *testing.T) {
	r := rand.New(rand.NewSource(105))
	for range 5000 {
		p := anyProfile(r, 20)
		l := []deed{}
		for range 1 + r.Intn(5) {
			from := min(max(anyTick(r, p), 0), 1000000)
			l = append(l, deed{from, max(from, anyTick(r, p)), r.Intn(9) - 4})
		}
		back := []deed{}
		for _, x := range l {
			back = append(back, deed{x.from, x.to, -x.n})
		}
		r.Shuffle(len(back), func(i, k int) { back[i], back[k] = back[k], back[i] })
		if got := done(t, p, append(l, back...)...); !Same(got, p) {
			t.Fatalf("of %v %v: %v", p, l, got)
		}
	}
	for _, x := range []struct {
		p []api.Step
		deed
	}{
		{zigzag(998, 3, 1, 2), deed{1, 2, 1}},
		{zigzag(998, 1001, 1, 2), deed{1, 2, -1}},
		{zigzag(999, 3, 1, 2), deed{0, 1, 1}},
		{zigzag(1000, 3, 1, 2), deed{0, 3, 1}},
		{zigzag(1000, 3, 1, 2), deed{3, 6, -1}},
		{zigzag(1000, 3, 1, 2), deed{0, 1000001, 1}},
		{Flat(0), deed{0, 1000001, 1000000}},
		{Flat(0), deed{5, 7, -1000000}},
		{Flat(-1000000), deed{1000000, 1000001, 1000000}},
	} {
		q := done(t, x.p, x.deed)
		if Same(q, x.p) {
			t.Errorf("nothing is added by %v", x.deed)
		}
		if got := done(t, q, deed{x.from, x.to, -x.n}); !Same(got, x.p) {
			t.Errorf("taken again, by %v: %v", x.deed, got)
		}
	}
}

// TestPoints: P10.6, of all pairs of short profiles: the same at each tick are
// those that are the same.
func TestPoints(t *testing.T) {
	l := [][]api.Step{}
	each(3, []int{0, 1, 3, 1000000}, []int{-1, 0, 2}, func(p []api.Step) {
		if Check(p) == api.OK {
			l = append(l, p)
		}
	})
	if len(l) < 50 {
		t.Fatalf("%d profiles", len(l))
	}
	for _, p := range l {
		for _, q := range l {
			alike := true
			for _, n := range []int{0, 1, 2, 3, 4, 999999, 1000000} {
				alike = alike && At(p, n) == At(q, n)
			}
			if Same(p, q) != alike {
				t.Errorf("Same(%v, %v) = %v", p, q, !alike)
			}
		}
	}
	// The same on two ways.
	p := done(t, Flat(4), deed{5, 9, -3}, deed{7, 12, -1})
	q := done(t, Flat(0), deed{12, math.MaxInt, 4}, deed{9, 12, 3}, deed{5, 7, 1}, deed{0, 5, 4})
	if !Same(p, q) || !Same(p, steps(0, 4, 5, 1, 7, 0, 9, 3, 12, 4)) {
		t.Errorf("%v and %v", p, q)
	}
}

// same asks Same, both ways round.
func same(t *testing.T, p, q []api.Step, want bool) {
	t.Helper()
	if Same(p, q) != want || Same(q, p) != want {
		t.Errorf("Same(%v, %v) is not %v", p[:min(len(p), 5)], q[:min(len(q), 5)], want)
	}
}

// TestSame: P10.4, of lists of steps, whether or not they are profiles.
func TestSame(t *testing.T) {
	// A list without a step may be nil or empty.
	same(t, nil, nil, true)
	same(t, nil, []api.Step{}, true)
	same(t, []api.Step{}, []api.Step{}, true)
	same(t, nil, make([]api.Step, 0, 9), true)
	same(t, nil, steps(0, 0), false)
	same(t, []api.Step{}, steps(0, 0), false)
	all := slices.Concat(good(), bad())
	for _, p := range all {
		same(t, p, p, true)
		same(t, p, slices.Clone(p), true)
		same(t, p, slices.Grow(slices.Clone(p), 9), true)
		same(t, p, append(slices.Clone(p), api.Step{}), false)
		same(t, p, append(slices.Clone(p), api.Step{At: 1000000, Free: 3}), false)
		same(t, p, append([]api.Step{{}}, p...), false)
		for _, i := range []int{0, 1, len(p) / 2, len(p) - 1} {
			if i < 0 || i >= len(p) {
				continue
			}
			same(t, p, p[:i], false)
			if i > 0 {
				same(t, p, p[i:], false)
			}
			for _, d := range []int{-1, 1, 1 << 32, math.MinInt} {
				q := slices.Clone(p)
				q[i].At += d
				same(t, p, q, false)
				q = slices.Clone(p)
				q[i].Free += d
				same(t, p, q, false)
			}
		}
	}
	// In another order, or with the fields swapped.
	same(t, steps(0, 4, 5, 1), steps(5, 1, 0, 4), false)
	same(t, steps(0, 4), steps(4, 0), false)
	same(t, steps(0, 4, 5, 1, 9, 4), steps(0, 4, 5, 1, 9, 4), true)
	same(t, steps(0, 4, 5, 1, 9, 4), steps(0, 4, 5, 1, 9, 4, 12, 4), false)
	// Alike at each tick, but one is no profile.
	same(t, steps(0, 4), steps(0, 4, 5, 4), false)
}

// guarded lays p into memory with room behind it, all of which is as was.
func guarded(p []api.Step) (l []api.Step, whole func() bool) {
	room := make([]api.Step, len(p)+9)
	for i := range room {
		room[i] = api.Step{At: 77, Free: -77}
	}
	copy(room, p)
	was := slices.Clone(room)
	return room[:len(p)], func() bool { return slices.Equal(room, was) }
}

// TestHandedIn: rule 4, of all calls: what is handed in is not changed, its
// spare room neither.
func TestHandedIn(t *testing.T) {
	for _, p := range slices.Concat(good(), bad()) {
		l, whole := guarded(p)
		other, otherWhole := guarded(p)
		Check(l)
		Same(l, other)
		Same(other, l)
		for _, from := range []int{-1, 0, 1, 5, 6, 9, 999999, 1000000, 1000001} {
			At(l, from)
			for _, to := range []int{-1, 0, 1, 5, 6, 9, 12, 1000000, 1000001, math.MaxInt} {
				Least(l, from, to)
				for _, n := range []int{-1000001, -1000000, -3, -1, 0, 1, 3, 1000000} {
					Add(l, from, to, n)
				}
			}
		}
		if !whole() || !otherWhole() {
			t.Errorf("%v was changed", p[:min(len(p), 5)])
		}
	}
}

// share tells whether two lists have memory in common, their spare room with it.
func share(p, q []api.Step) bool {
	p, q = p[:cap(p)], q[:cap(q)]
	if len(p) == 0 || len(q) == 0 {
		return false
	}
	begin := func(l []api.Step) uintptr { return uintptr(unsafe.Pointer(&l[0])) }
	end := func(l []api.Step) uintptr { return begin(l) + uintptr(len(l))*unsafe.Sizeof(l[0]) }
	return begin(p) < end(q) && begin(q) < end(p)
}

// TestNewMemory: rule 4, of what Flat and Add hand out, also where nothing was
// added.
func TestNewMemory(t *testing.T) {
	for _, n := range []int{math.MinInt, -1000000, 0, 4, 1000000, math.MaxInt} {
		p, q := Flat(n), Flat(n)
		if share(p, q) {
			t.Errorf("Flat(%d) twice is the same memory", n)
		}
		p[0] = api.Step{At: 9, Free: 9}
		if !Same(Flat(n), q) {
			t.Errorf("Flat(%d) = %v", n, Flat(n))
		}
	}
	for _, p := range good() {
		for _, x := range []deed{
			{0, 0, 1}, {5, 5, 1}, {1000000, 1000000, -3}, {0, 1000001, 0}, {5, 9, 0}, {1000000, 1000001, 0},
			{0, 5, 1}, {5, 9, -1}, {9, math.MaxInt, 1}, {0, math.MaxInt, 1}, {1000000, 1000001, 1}, {0, 1, 1}, {999999, 1000000, 1},
		} {
			l, whole := guarded(p)
			q, e := Add(l, x.from, x.to, x.n)
			if e != api.OK {
				continue
			}
			want := slices.Clone(q)
			again, _ := Add(l, x.from, x.to, x.n)
			if share(q, l) || share(q, again) || !Same(q, again) {
				t.Errorf("Add(%v, %v) shares its memory", p, x)
			}
			// Whoever has it may do with it what he wants, and with p, too.
			q = q[:cap(q)]
			for i := range q {
				q[i] = api.Step{At: -5, Free: -5}
			}
			if !whole() || !Same(again, want) {
				t.Errorf("Add(%v, %v): changed by its answer's change", p, x)
			}
			for i := range l {
				l[i] = api.Step{At: -7, Free: -7}
			}
			if !Same(again, want) {
				t.Errorf("Add(%v, %v): its answer was changed with p", p, x)
			}
		}
	}
}

// TestNothingIsKept: rule 5, of calls in another order: each answers as ever.
func TestNothingIsKept(t *testing.T) {
	r := rand.New(rand.NewSource(106))
	type call struct {
		p []api.Step
		deed
	}
	type answer struct {
		q           []api.Step
		e, checked  api.Errno
		least, here int
	}
	asked := func(x call) answer {
		q, e := Add(x.p, x.from, x.to, x.n)
		return answer{q, e, Check(x.p), Least(x.p, x.from, x.to), At(x.p, x.from)}
	}
	alike := func(a, b answer) bool {
		return slices.Equal(a.q, b.q) && a.e == b.e && a.checked == b.checked && a.least == b.least && a.here == b.here
	}
	calls, answers := []call{}, []answer{}
	for _, p := range slices.Concat(good(), bad()) {
		for _, x := range []deed{{0, 5, 1}, {5, 9, -3}, {5, 4, 1}, {-1, 5, 1}, {1000000, math.MaxInt, 1000000}, {5, 5, 0}} {
			calls = append(calls, call{p, x})
			answers = append(answers, asked(call{p, x}))
		}
	}
	for range 3 {
		for _, i := range r.Perm(len(calls)) {
			if got := asked(calls[i]); !alike(got, answers[i]) {
				t.Fatalf("asked again, %v: %v", calls[i].deed, got)
			}
		}
	}
}

// TestErrors: rule 2, of all the errors that come together: the first one is told.
func TestErrors(t *testing.T) {
	full := zigzag(1000, 3, 1, 1000000)
	for _, x := range []struct {
		p []api.Step
		deed
		want api.Errno
	}{
		{nil, deed{5, 4, 1}, api.ErrProfile},
		{nil, deed{-1, 5, 1}, api.ErrProfile},
		{nil, deed{1000001, 1000002, 1}, api.ErrProfile},
		{nil, deed{0, 5, 1000001}, api.ErrProfile},
		{steps(0, 1000001), deed{0, 5, 1}, api.ErrProfile},
		{steps(0, 1000001), deed{0, 1000001, -1}, api.ErrProfile},
		{steps(0, 1, 5, 1), deed{5, 1000001, 1}, api.ErrProfile},
		{steps(0, 1, 5, 1), deed{5, 4, 1}, api.ErrProfile},
		{steps(1, 1), deed{0, 1, 5}, api.ErrProfile},
		{zigzag(1001, 1, 1, 2), deed{0, 1, 1}, api.ErrProfile},
		{zigzag(1001, 1, 1, 2), deed{-1, 1, 1}, api.ErrProfile},
		{zigzag(1001, 1, 1, 2), deed{1, 2, 1}, api.ErrProfile},
		{full, deed{-1, 5, 1}, api.ErrArg},
		{full, deed{5, 4, 1}, api.ErrArg},
		{full, deed{0, 1000001, 1000001}, api.ErrArg},
		{full, deed{1000001, 1000001, 1}, api.ErrArg},
		{full, deed{0, 1000001, 1}, api.ErrBig},
		{full, deed{1, 2, -1}, api.ErrBig},
		{full, deed{4, 5, 1}, api.ErrBig},
		{full, deed{4, 5, -1}, api.ErrBig},
	} {
		fails(t, x.p, x.from, x.to, x.n, x.want)
	}
}

// TestModel: the model's own rows rise.
func TestModel(t *testing.T) {
	r := rand.New(rand.NewSource(107))
	for range 2000 {
		p := anyProfile(r, 30)
		rises := slices.IsSortedFunc(p, func(a, b api.Step) int { return cmp.Compare(a.At, b.At) })
		if !isProfile(p) || !rises || !slices.IsSorted(edges(p)) {
			t.Fatalf("%v", p)
		}
	}
}
