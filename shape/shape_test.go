package shape

import (
	"math"
	"math/rand"
	"slices"
	"testing"
	"unsafe"

	"muster/api"
)

// alts is a list of alternatives: the Nodes and the Wall of each, in turn.
func alts(numbers ...int) []api.Alt {
	l := []api.Alt{}
	for i := 0; i+1 < len(numbers); i += 2 {
		l = append(l, api.Alt{Nodes: numbers[i], Wall: numbers[i+1]})
	}
	return l
}

// listed is a shape of that kind, with alternatives.
func listed(kind int, numbers ...int) api.Shape {
	return api.Shape{Kind: kind, Alts: alts(numbers...)}
}

// rigid, moldable and malleable are shapes of these kinds.
func rigid(numbers ...int) api.Shape    { return listed(1, numbers...) }
func moldable(numbers ...int) api.Shape { return listed(2, numbers...) }
func malleable(least, most, wall int) api.Shape {
	return api.Shape{Kind: 3, Min: least, Max: most, Wall: wall}
}

// odd are numbers that are no size and no wall.
var odd = []int{
	0, -1, -2, -48, -100000, 100001, 1 << 20, math.MaxInt32, math.MaxInt32 + 1, 1<<32 + 1, 1<<32 + 4,
	math.MinInt32, -1<<32 + 1, math.MinInt + 1, math.MinInt, math.MaxInt - 1, math.MaxInt,
}

// altMay tells by the chapter's words whether an alternative may be.
func altMay(a api.Alt) bool {
	return 0 < a.Nodes && a.Nodes < 49 && 0 < a.Wall && a.Wall < 100001
}

// shapeMay tells by the chapter's words whether a shape may be.
func shapeMay(s api.Shape) bool {
	sizes := map[int]int{}
	for _, a := range s.Alts {
		if !altMay(a) {
			return false
		}
		sizes[a.Nodes]++
	}
	n := len(s.Alts)
	spanless := s.Min == 0 && s.Max == 0 && s.Wall == 0
	switch s.Kind {
	case 1:
		return n == 1 && spanless
	case 2:
		return n > 0 && n < 7 && len(sizes) == n && spanless
	case 3:
		return n == 0 && 0 < s.Min && s.Min <= s.Max && altMay(api.Alt{Nodes: s.Max, Wall: s.Wall})
	}
	return false
}

// optionsOf tells a shape's options by the chapter's words.
func optionsOf(s api.Shape) []api.Alt {
	if !shapeMay(s) {
		return nil
	}
	if s.Kind != 3 {
		return slices.Clone(s.Alts)
	}
	l := []api.Alt{}
	for n := s.Min; n <= s.Max; n++ {
		l = slices.Insert(l, 0, api.Alt{Nodes: n, Wall: s.Wall})
	}
	return l
}

// allowed tells by the chapter's words whether a shape allows a size.
func allowed(s api.Shape, choice, n int) bool {
	l := optionsOf(s)
	if choice < 0 || choice >= len(l) {
		return false
	}
	if s.Kind == 3 {
		return n >= s.Min && n <= s.Max
	}
	return n == l[choice].Nodes
}

// sameShape tells whether two shapes are the same, an empty list as good as nil.
func sameShape(a, b api.Shape) bool {
	if len(a.Alts) != len(b.Alts) {
		return false
	}
	for i := range a.Alts {
		if a.Alts[i] != b.Alts[i] {
			return false
		}
	}
	return [4]int{a.Kind, a.Min, a.Max, a.Wall} == [4]int{b.Kind, b.Min, b.Max, b.Wall}
}

// holds asks all that the chapter says of one shape.
func holds(t *testing.T, s api.Shape) {
	t.Helper()
	want := api.ErrShape
	if shapeMay(s) {
		want = api.OK
	}
	if e := Check(s); e != want {
		t.Errorf("Check(%v) = %d, not %d", s, int(e), int(want))
	}
	l := optionsOf(s)
	if got := Options(s); !slices.Equal(got, l) {
		t.Errorf("Options(%v) = %v, not %v", s, got, l)
	}
	least, most := 0, 0
	for _, a := range l {
		if least == 0 || a.Nodes < least {
			least = a.Nodes
		}
		most = max(most, a.Nodes)
	}
	if got := Least(s); got != least {
		t.Errorf("Least(%v) = %d, not %d", s, got, least)
	}
	if got := Most(s); got != most {
		t.Errorf("Most(%v) = %d, not %d", s, got, most)
	}
	if !Same(s, s) {
		t.Errorf("%v is not the same as itself", s)
	}
}

// allows asks Allows of a shape, with all numbers and sizes near its own and
// with odd ones.
func allows(t *testing.T, s api.Shape) {
	t.Helper()
	numbers := append([]int{math.MinInt, math.MaxInt, 1 << 32, -1 << 32, 1<<32 + 1, 256, 257}, odd...)
	for n := -2; n <= 50; n++ {
		numbers = append(numbers, n)
	}
	for _, choice := range numbers {
		for _, n := range numbers {
			if got := Allows(s, choice, n); got != allowed(s, choice, n) {
				t.Fatalf("Allows(%v, %d, %d) = %v", s, choice, n, got)
			}
		}
	}
}

// walls asks Walls of a shape, with one wall.
func walls(t *testing.T, s api.Shape, wall int) {
	t.Helper()
	want := s
	want.Alts = slices.Clone(s.Alts)
	for i := range want.Alts {
		want.Alts[i].Wall = wall
	}
	if s.Kind == 3 {
		want.Wall = wall
	}
	if got := Walls(s, wall); !sameShape(got, want) {
		t.Errorf("Walls(%v, %d) = %v, not %v", s, wall, got, want)
	}
}

// mayShapes are shapes that may be, of each kind.
func mayShapes() []api.Shape {
	return []api.Shape{
		rigid(1, 1), rigid(4, 60), rigid(48, 100000), rigid(48, 1), rigid(1, 100000), rigid(47, 99999), rigid(2, 2),
		moldable(1, 1), moldable(4, 60), moldable(48, 100000), moldable(48, 1), moldable(1, 100000),
		moldable(4, 60, 2, 90), moldable(2, 90, 4, 60), moldable(1, 5, 48, 5), moldable(47, 9, 48, 9),
		moldable(8, 10, 1, 80, 4, 20), moldable(3, 1, 1, 3, 2, 2), moldable(1, 7, 2, 7, 3, 7, 4, 7, 5, 7),
		moldable(48, 1, 1, 100000, 24, 7, 47, 7, 2, 9, 46, 8), moldable(6, 1, 5, 1, 4, 1, 3, 1, 2, 1, 1, 1),
		malleable(1, 1, 1), malleable(1, 1, 100000), malleable(48, 48, 1), malleable(48, 48, 100000),
		malleable(7, 7, 30), malleable(1, 2, 5), malleable(2, 4, 60), malleable(47, 48, 9), malleable(1, 48, 1),
		malleable(1, 48, 100000), malleable(2, 48, 99999), malleable(1, 47, 2),
	}
}

// mayNotShapes are shapes that may not be, each for one reason, but for those
// of no kind.
func mayNotShapes() []api.Shape {
	l := []api.Shape{
		{}, rigid(), moldable(), malleable(0, 0, 0),
		// Nodes and Wall, one more than may be.
		rigid(49, 60), rigid(4, 100001), moldable(49, 60), moldable(4, 100001), moldable(4, 60, 49, 60),
		moldable(4, 60, 2, 100001), moldable(49, 60, 4, 60), moldable(4, 100001, 2, 60),
		// Rigid, with two.
		rigid(4, 60, 2, 60), rigid(4, 60, 4, 60), rigid(1, 1, 2, 2, 3, 3),
		// Moldable, with seven, eight.
		moldable(1, 9, 2, 9, 3, 9, 4, 9, 5, 9, 6, 9, 7, 9),
		moldable(1, 9, 2, 9, 3, 9, 4, 9, 5, 9, 6, 9, 7, 9, 8, 9),
		moldable(6, 9, 5, 9, 4, 9, 3, 9, 2, 9, 1, 9, 48, 9),
		// Moldable, with two of one size, next to each other and apart.
		moldable(4, 60, 4, 60), moldable(4, 60, 4, 61), moldable(2, 1, 4, 60, 4, 61), moldable(4, 60, 4, 61, 2, 1),
		moldable(4, 60, 2, 1, 4, 60), moldable(4, 60, 2, 1, 3, 5, 4, 9), moldable(1, 1, 2, 2, 3, 3, 2, 4, 5, 5),
		moldable(1, 9, 2, 9, 3, 9, 4, 9, 5, 9, 1, 9), moldable(1, 9, 2, 9, 3, 9, 4, 9, 5, 9, 5, 9),
		moldable(1, 9, 1, 9, 1, 9), moldable(7, 1, 7, 1, 7, 1, 7, 1, 7, 1, 7, 1),
		// Malleable.
		malleable(3, 2, 60), malleable(48, 1, 60), malleable(2, 1, 1), malleable(48, 47, 1), malleable(1, 49, 60),
		malleable(49, 49, 60), malleable(49, 48, 60), malleable(49, 50, 60), malleable(1, 4, 100001), malleable(0, 4, 60),
		malleable(-1, 4, 60), malleable(0, 48, 1), malleable(1, 0, 60), malleable(0, 0, 60), malleable(-1, -1, 60),
		malleable(1, 4, 0), malleable(1, 4, -1), malleable(math.MinInt, math.MaxInt, 60), malleable(1, math.MaxInt, 60),
		malleable(math.MinInt, 4, 60), malleable(math.MinInt, math.MinInt, 60), malleable(math.MaxInt, math.MaxInt, 60),
	}
	for _, n := range odd {
		l = append(l, rigid(n, 60), rigid(4, n), moldable(n, 60), moldable(4, n), moldable(4, 60, n, 60),
			moldable(4, 60, 2, n), moldable(n, 60, 4, 60), moldable(4, n, 2, 60), moldable(1, 9, 2, 9, 3, 9, 4, 9, 5, 9, n, 9),
			moldable(1, 9, 2, 9, 3, 9, 4, 9, 5, 9, 6, n), malleable(n, 4, 60), malleable(2, n, 60), malleable(2, 4, n),
			malleable(n, n, 60), malleable(n, n, n))
	}
	for _, s := range mayShapes() {
		l = append(l, spoilt(s)...)
	}
	return l
}

// spoilt is a shape that may be, in turn with each field set that its kind
// doesn't have, and under other kinds.
func spoilt(s api.Shape) []api.Shape {
	var l []api.Shape
	for _, n := range append([]int{1, 2, 48}, odd[1:]...) {
		if s.Kind != 3 {
			l = append(l, api.Shape{Kind: s.Kind, Alts: s.Alts, Min: n}, api.Shape{Kind: s.Kind, Alts: s.Alts, Max: n},
				api.Shape{Kind: s.Kind, Alts: s.Alts, Wall: n}, api.Shape{Kind: s.Kind, Alts: s.Alts, Min: n, Max: n, Wall: n})
		}
	}
	for _, more := range [][]api.Alt{alts(4, 60), alts(s.Max, s.Wall), alts(0, 0), alts(4, 60, 2, 60), alts(0, 0, 0, 0)} {
		if s.Kind == 3 {
			l = append(l, api.Shape{Kind: 3, Alts: more, Min: s.Min, Max: s.Max, Wall: s.Wall})
		}
	}
	for _, kind := range append([]int{1, 2, 3, 4, 5, 6, 255, 256, 257, 258, 259, 1<<32 + 2, 1<<32 + 3, -3}, odd...) {
		// A single alternative may be of either kind that has alternatives.
		if kind != s.Kind && !(kind < 3 && kind > 0 && len(s.Alts) == 1) {
			l = append(l, api.Shape{Kind: kind, Alts: s.Alts, Min: s.Min, Max: s.Max, Wall: s.Wall})
		}
	}
	return l
}

// TestMay: P7.1 and P7.2, of shapes that may be.
func TestMay(t *testing.T) {
	for _, s := range mayShapes() {
		if e := Check(s); e != api.OK {
			t.Errorf("Check(%v) = %d", s, int(e))
		}
		holds(t, s)
		// Nil is as good as an empty list.
		if len(s.Alts) == 0 {
			s.Alts = alts()
			holds(t, s)
			s.Alts = nil
			holds(t, s)
		}
	}
}

// TestMayNot: P7.1 and P7.2, of shapes that may not be: they have no option.
func TestMayNot(t *testing.T) {
	for _, s := range mayNotShapes() {
		if e := Check(s); e != api.ErrShape {
			t.Errorf("Check(%v) = %d", s, int(e))
		}
		if l := Options(s); len(l) != 0 {
			t.Errorf("Options(%v) = %v", s, l)
		}
		if least, most := Least(s), Most(s); least != 0 || most != 0 {
			t.Errorf("%v has the sizes %d and %d", s, least, most)
		}
		if n := len(s.Alts); n == 0 {
			s.Alts = alts()
			holds(t, s)
			s.Alts = nil
		}
		holds(t, s)
	}
	// Far more alternatives than may be.
	many := make([]api.Alt, 1<<20)
	for i := range many {
		many[i] = api.Alt{Nodes: i%48 + 1, Wall: 1}
	}
	for kind := range 5 {
		s := api.Shape{Kind: kind, Alts: many}
		if e := Check(s); e != api.ErrShape || len(Options(s)) != 0 || Allows(s, 0, 1) {
			t.Errorf("kind %d, with a million alternatives: %d", kind, int(e))
		}
	}
}

// TestSizes: P7.2, told by hand.
func TestSizes(t *testing.T) {
	for _, x := range []struct {
		s           api.Shape
		options     []api.Alt
		least, most int
	}{
		// The chapter's example.
		{malleable(2, 4, 60), alts(4, 60, 3, 60, 2, 60), 2, 4},
		{malleable(7, 7, 1), alts(7, 1), 7, 7},
		{malleable(1, 2, 100000), alts(2, 100000, 1, 100000), 1, 2},
		{malleable(48, 48, 3), alts(48, 3), 48, 48},
		{rigid(4, 60), alts(4, 60), 4, 4},
		{rigid(48, 100000), alts(48, 100000), 48, 48},
		{moldable(4, 60), alts(4, 60), 4, 4},
		{moldable(4, 10, 2, 20), alts(4, 10, 2, 20), 2, 4},
		{moldable(2, 20, 4, 10), alts(2, 20, 4, 10), 2, 4},
		{moldable(8, 5, 1, 80, 16, 2, 4, 20), alts(8, 5, 1, 80, 16, 2, 4, 20), 1, 16},
		{moldable(3, 1, 48, 1, 1, 1), alts(3, 1, 48, 1, 1, 1), 1, 48},
		{rigid(4, 60, 2, 60), nil, 0, 0},
		{malleable(3, 2, 60), nil, 0, 0},
		{moldable(4, 60, 4, 60), nil, 0, 0},
		{listed(4, 4, 60), nil, 0, 0},
	} {
		if l := Options(x.s); !slices.Equal(l, x.options) {
			t.Errorf("Options(%v) = %v, not %v", x.s, l, x.options)
		}
		if least, most := Least(x.s), Most(x.s); least != x.least || most != x.most {
			t.Errorf("%v: from %d to %d, not from %d to %d", x.s, least, most, x.least, x.most)
		}
	}
	l := Options(malleable(1, 48, 9))
	if len(l) != 48 {
		t.Fatalf("%d options", len(l))
	}
	for i, a := range l {
		if a != (api.Alt{Nodes: 48 - i, Wall: 9}) {
			t.Errorf("option %d of 48: %v", i, a)
		}
	}
}

// TestEachSpan: P7.1, P7.2 and P7.4, of all malleable shapes near those that may be.
func TestEachSpan(t *testing.T) {
	for least := -2; least <= 51; least++ {
		for most := -2; most <= 51; most++ {
			for _, wall := range []int{-1, 0, 1, 2, 99999, 100000, 100001} {
				holds(t, malleable(least, most, wall))
			}
		}
	}
}

// TestEachAlternative: P7.1, of all sizes with walls at the edges, as the one
// alternative and as the last of several.
func TestEachAlternative(t *testing.T) {
	for n := -2; n <= 51; n++ {
		for _, wall := range []int{-1, 0, 1, 2, 50, 99999, 100000, 100001} {
			holds(t, rigid(n, wall))
			holds(t, moldable(n, wall))
			holds(t, moldable(3, 50, n, wall))
			holds(t, moldable(n, wall, 48, 1))
			holds(t, moldable(1, 1, 48, 1, 24, 1, 2, 1, 9, 1, n, wall))
		}
	}
}

// anyOf is one of some numbers.
func anyOf(r *rand.Rand, l ...int) int { return l[r.Intn(len(l))] }

// anyShape is any shape, with numbers near the edges; most of those that may
// not be are so for one reason.
func anyShape(r *rand.Rand) api.Shape {
	s := api.Shape{Kind: anyOf(r, 1, 1, 2, 2, 2, 3, 3, 3, 0, 4, -1)}
	if s.Kind != 3 || r.Intn(9) == 0 {
		for range anyOf(r, 1, 1, 1, 2, 3, 5, 6, 7) {
			a := api.Alt{Nodes: 1 + r.Intn(48), Wall: 1 + r.Intn(100000)}
			if r.Intn(30) == 0 {
				a.Nodes = anyOf(r, -1, 0, 1, 48, 49, math.MaxInt, math.MinInt)
			}
			if r.Intn(30) == 0 {
				a.Wall = anyOf(r, -1, 0, 1, 100000, 100001, math.MaxInt, math.MinInt)
			}
			s.Alts = append(s.Alts, a)
		}
	}
	if s.Kind == 3 || r.Intn(9) == 0 {
		s.Min, s.Max, s.Wall = 1+r.Intn(48), 1+r.Intn(48), 1+r.Intn(100000)
		if r.Intn(3) > 0 && s.Min > s.Max {
			s.Min, s.Max = s.Max, s.Min
		}
		if r.Intn(9) == 0 {
			s.Max = anyOf(r, 0, s.Min, 48, 49, math.MaxInt)
		}
		if r.Intn(9) == 0 {
			s.Wall = anyOf(r, -1, 0, 1, 100000, 100001)
		}
	}
	return s
}

// TestAny: P7.1 to P7.3, of any shapes, by the chapter's words.
func TestAny(t *testing.T) {
	r := rand.New(rand.NewSource(7))
	may := map[int]int{}
	for range 20000 {
		s := anyShape(r)
		holds(t, s)
		walls(t, s, anyOf(r, 0, 1, 60, 100000, 100001, -1, math.MinInt, math.MaxInt))
		if shapeMay(s) {
			may[s.Kind]++
		}
		choice, n := r.Intn(50)-1, r.Intn(50)-1
		if len(s.Alts) > 0 && r.Intn(2) == 0 {
			choice = r.Intn(len(s.Alts))
			n = s.Alts[r.Intn(len(s.Alts))].Nodes
		}
		if got := Allows(s, choice, n); got != allowed(s, choice, n) {
			t.Errorf("Allows(%v, %d, %d) = %v", s, choice, n, got)
		}
	}
	for kind := 1; kind <= 3; kind++ {
		if may[kind] < 500 {
			t.Errorf("only %d shapes of kind %d that may be", may[kind], kind)
		}
	}
}

// TestAllows: P7.3, told by hand.
func TestAllows(t *testing.T) {
	two := moldable(4, 10, 2, 20)
	span := malleable(2, 4, 60)
	for _, x := range []struct {
		s         api.Shape
		choice, n int
		want      bool
	}{
		{rigid(4, 60), 0, 4, true},
		{rigid(4, 60), 0, 3, false},
		{rigid(4, 60), 0, 5, false},
		{rigid(4, 60), 0, 0, false},
		{rigid(4, 60), 0, -4, false},
		{rigid(4, 60), 1, 4, false},
		{rigid(4, 60), -1, 4, false},
		{rigid(4, 60), 4, 4, false},
		{two, 0, 4, true},
		{two, 1, 2, true},
		// A size that is another option's, or between two.
		{two, 0, 2, false},
		{two, 1, 4, false},
		{two, 0, 3, false},
		{two, 1, 3, false},
		{two, 2, 2, false},
		{two, 2, 4, false},
		{two, -1, 2, false},
		{two, math.MaxInt, 4, false},
		{two, math.MinInt, 4, false},
		// A malleable one has any size from Min to Max, with any option.
		{span, 0, 4, true},
		{span, 0, 3, true},
		{span, 0, 2, true},
		{span, 1, 4, true},
		{span, 2, 4, true},
		{span, 2, 2, true},
		{span, 0, 1, false},
		{span, 0, 5, false},
		{span, 2, 1, false},
		{span, 2, 5, false},
		{span, 0, 0, false},
		{span, 0, math.MaxInt, false},
		{span, 0, math.MinInt, false},
		{span, 3, 4, false},
		{span, 4, 4, false},
		{span, -1, 4, false},
		{malleable(7, 7, 1), 0, 7, true},
		{malleable(7, 7, 1), 1, 7, false},
		{malleable(7, 7, 1), 0, 6, false},
		{malleable(7, 7, 1), 0, 8, false},
		{malleable(1, 48, 1), 47, 48, true},
		{malleable(1, 48, 1), 47, 1, true},
		{malleable(1, 48, 1), 48, 1, false},
		{malleable(1, 48, 1), 47, 49, false},
		// Shapes that may not be.
		{api.Shape{}, 0, 0, false},
		{rigid(), 0, 0, false},
		{rigid(4, 60, 2, 60), 0, 4, false},
		{rigid(4, 100001), 0, 4, false},
		{rigid(49, 1), 0, 49, false},
		{moldable(4, 60, 4, 60), 0, 4, false},
		{malleable(3, 2, 60), 0, 3, false},
		{malleable(2, 49, 60), 0, 4, false},
		{malleable(2, 4, 0), 0, 3, false},
		{listed(4, 4, 60), 0, 4, false},
		{api.Shape{Kind: 1, Alts: alts(4, 60), Wall: 1}, 0, 4, false},
		{api.Shape{Kind: 3, Alts: alts(3, 60), Min: 2, Max: 4, Wall: 60}, 0, 3, false},
	} {
		if got := Allows(x.s, x.choice, x.n); got != x.want {
			t.Errorf("Allows(%v, %d, %d) = %v", x.s, x.choice, x.n, got)
		}
	}
}

// TestAllowsAll: P7.3, of shapes with all numbers and sizes.
func TestAllowsAll(t *testing.T) {
	for _, s := range mayShapes() {
		allows(t, s)
	}
	for _, s := range []api.Shape{{}, rigid(), rigid(4, 60, 2, 60), moldable(2, 1, 2, 1), malleable(1, 49, 1), malleable(4, 2, 9)} {
		allows(t, s)
	}
}

// TestWalls: P7.3, told by hand.
func TestWalls(t *testing.T) {
	for _, x := range []struct {
		s    api.Shape
		wall int
		want api.Shape
	}{
		{rigid(4, 60), 7, rigid(4, 7)},
		{rigid(4, 60), 60, rigid(4, 60)},
		{rigid(4, 60), 0, rigid(4, 0)},
		{rigid(4, 60), -1, rigid(4, -1)},
		{rigid(4, 60), 100001, rigid(4, 100001)},
		{rigid(4, 60), math.MaxInt, rigid(4, math.MaxInt)},
		{rigid(4, 60), math.MinInt, rigid(4, math.MinInt)},
		{moldable(4, 10, 2, 20), 7, moldable(4, 7, 2, 7)},
		{moldable(8, 10, 1, 80, 4, 20), 100000, moldable(8, 100000, 1, 100000, 4, 100000)},
		{malleable(2, 4, 60), 7, malleable(2, 4, 7)},
		{malleable(2, 4, 60), 0, malleable(2, 4, 0)},
		{malleable(2, 4, 60), math.MinInt, malleable(2, 4, math.MinInt)},
		// Shapes that may not be.
		{api.Shape{}, 7, api.Shape{}},
		{rigid(), 7, rigid()},
		{rigid(49, 0, 2, 60), 7, rigid(49, 7, 2, 7)},
		{moldable(4, 60, 4, 61), 7, moldable(4, 7, 4, 7)},
		{malleable(3, 2, -5), 7, malleable(3, 2, 7)},
		{listed(4, 4, 60), 7, listed(4, 4, 7)},
		{listed(0, 4, 60, 3, 1), 7, listed(0, 4, 7, 3, 7)},
		// Only a malleable one has its own Wall changed; each has that of its Alts.
		{api.Shape{Kind: 1, Alts: alts(4, 60), Min: 1, Max: 2, Wall: 3}, 7, api.Shape{Kind: 1, Alts: alts(4, 7), Min: 1, Max: 2, Wall: 3}},
		{api.Shape{Kind: 2, Alts: alts(4, 60), Min: 1, Max: 2, Wall: 3}, 7, api.Shape{Kind: 2, Alts: alts(4, 7), Min: 1, Max: 2, Wall: 3}},
		{api.Shape{Kind: 4, Min: 1, Max: 2, Wall: 3}, 7, api.Shape{Kind: 4, Min: 1, Max: 2, Wall: 3}},
		{api.Shape{Min: 1, Max: 2, Wall: 3}, 7, api.Shape{Min: 1, Max: 2, Wall: 3}},
		{api.Shape{Kind: -3, Min: 1, Max: 2, Wall: 3}, 7, api.Shape{Kind: -3, Min: 1, Max: 2, Wall: 3}},
		{api.Shape{Kind: 3, Alts: alts(4, 60, 0, 0), Min: 1, Max: 2, Wall: 3}, 7, api.Shape{Kind: 3, Alts: alts(4, 7, 0, 7), Min: 1, Max: 2, Wall: 7}},
	} {
		if got := Walls(x.s, x.wall); !sameShape(got, x.want) {
			t.Errorf("Walls(%v, %d) = %v, not %v", x.s, x.wall, got, x.want)
		}
	}
	for _, wall := range append([]int{1, 2, 60, 99999, 100000}, odd...) {
		for _, s := range append(mayShapes(), mayNotShapes()...) {
			walls(t, s, wall)
		}
	}
}

// differing are shapes that differ from s in one thing each.
func differing(s api.Shape) []api.Shape {
	l := []api.Shape{s, s, s, s, s, s, s, s}
	l[0].Kind++
	l[1].Kind = -s.Kind - 1
	l[2].Min++
	l[3].Min--
	l[4].Max++
	l[5].Max--
	l[6].Wall++
	l[7].Wall--
	for i := range s.Alts {
		for _, by := range []api.Alt{{Nodes: 1}, {Nodes: -1}, {Wall: 1}, {Wall: -1}} {
			more := slices.Clone(s.Alts)
			more[i].Nodes += by.Nodes
			more[i].Wall += by.Wall
			l = append(l, withAlts(s, more))
		}
		l = append(l, withAlts(s, slices.Delete(slices.Clone(s.Alts), i, i+1)))
	}
	l = append(l, withAlts(s, append(slices.Clone(s.Alts), api.Alt{})))
	l = append(l, withAlts(s, append(slices.Clone(s.Alts), api.Alt{Nodes: 33, Wall: 5})))
	l = append(l, withAlts(s, append(alts(33, 5), s.Alts...)))
	return l
}

// withAlts is s, with these alternatives.
func withAlts(s api.Shape, l []api.Alt) api.Shape {
	s.Alts = l
	return s
}

// TestSame: P7.3, of shapes that are the same, and that differ in one thing.
func TestSame(t *testing.T) {
	l := append(mayShapes(), api.Shape{}, api.Shape{Kind: 1, Min: -1, Max: 5, Wall: 7},
		api.Shape{Kind: 3, Alts: alts(4, 60, 4, 60), Min: 9, Max: 1}, api.Shape{Kind: 9, Alts: alts(0, 0, -1, -1)})
	for _, s := range l {
		twin := withAlts(s, slices.Clone(s.Alts))
		if !Same(s, twin) || !Same(twin, s) {
			t.Errorf("%v is not the same as its twin", s)
		}
		for _, other := range differing(s) {
			if Same(s, other) || Same(other, s) {
				t.Errorf("%v and %v are the same", s, other)
			}
			if !Same(other, withAlts(other, slices.Clone(other.Alts))) {
				t.Errorf("%v is not the same as its twin", other)
			}
		}
		for _, other := range l {
			if got := Same(s, other); got != sameShape(s, other) {
				t.Errorf("Same(%v, %v) = %v", s, other, got)
			}
		}
	}
	// The order counts.
	if Same(moldable(4, 10, 2, 20), moldable(2, 20, 4, 10)) || Same(moldable(1, 5, 2, 5, 3, 5), moldable(1, 5, 3, 5, 2, 5)) {
		t.Error("alternatives in another order are the same")
	}
	// So does which is whose number, however the sums come out.
	if Same(moldable(4, 10, 2, 20), moldable(4, 20, 2, 10)) || Same(malleable(2, 4, 60), malleable(4, 2, 60)) || Same(rigid(4, 60), rigid(60, 4)) {
		t.Error("numbers that are changed round are the same")
	}
	// An empty list is as good as nil, with room or without.
	for _, kind := range []int{0, 1, 2, 3} {
		s := api.Shape{Kind: kind, Min: 1, Max: 2, Wall: 3}
		for _, a := range [][]api.Alt{nil, {}, alts(4, 60)[:0]} {
			for _, b := range [][]api.Alt{nil, {}, alts(2, 90)[:0]} {
				if !Same(withAlts(s, a), withAlts(s, b)) {
					t.Errorf("kind %d: no alternatives are not the same as none", kind)
				}
			}
		}
	}
}

// TestWhatOptionsAre: P7.4.
func TestWhatOptionsAre(t *testing.T) {
	r := rand.New(rand.NewSource(74))
	for _, s := range somethatMay(r) {
		l := Options(s)
		if len(l) < 1 || len(l) > 48 {
			t.Errorf("%v has %d options", s, len(l))
		}
		sizes := map[int]int{}
		for i, a := range l {
			if e := Check(rigid(a.Nodes, a.Wall)); e != api.OK || !altMay(a) {
				t.Errorf("%v has the option %v, which may not be", s, a)
			}
			if sizes[a.Nodes]++; sizes[a.Nodes] > 1 {
				t.Errorf("%v has two options of the size %d", s, a.Nodes)
			}
			if a.Nodes < Least(s) || a.Nodes > Most(s) || !Allows(s, i, a.Nodes) {
				t.Errorf("%v has the option %v, which it doesn't allow", s, a)
			}
		}
		if sizes[Least(s)] != 1 || sizes[Most(s)] != 1 {
			t.Errorf("%v: its least and its greatest size, %d and %d, are no option's", s, Least(s), Most(s))
		}
	}
}

// TestWhatWallsLeave: P7.5.
func TestWhatWallsLeave(t *testing.T) {
	r := rand.New(rand.NewSource(75))
	for _, s := range somethatMay(r) {
		for _, wall := range []int{1, 2, 60, 99999, 100000, 1 + r.Intn(100000)} {
			w := Walls(s, wall)
			if e := Check(w); e != api.OK {
				t.Fatalf("Walls(%v, %d) = %v, which may not be: %d", s, wall, w, int(e))
			}
			l, was := Options(w), Options(s)
			if len(l) != len(was) {
				t.Fatalf("Walls(%v, %d) = %v: it has %d options, not %d", s, wall, w, len(l), len(was))
			}
			for i, a := range l {
				if a != (api.Alt{Nodes: was[i].Nodes, Wall: wall}) {
					t.Errorf("Walls(%v, %d): option %d is %v", s, wall, i, a)
				}
			}
			if !Same(Walls(w, 5), Walls(s, 5)) {
				t.Errorf("%v, with two walls one behind the other, is another one", s)
			}
		}
		for _, wall := range odd {
			if e := Check(Walls(s, wall)); e != api.ErrShape {
				t.Errorf("Check of Walls(%v, %d) = %d", s, wall, int(e))
			}
		}
	}
}

// somethatMay are shapes that may be, any among them.
func somethatMay(r *rand.Rand) []api.Shape {
	l := mayShapes()
	for len(l) < 2000 {
		if s := anyShape(r); Check(s) == api.OK {
			l = append(l, s)
		}
	}
	return l
}

// shares tells whether two lists have memory in common, their spare room too.
func shares(a, b []api.Alt) bool {
	if cap(a) == 0 || cap(b) == 0 {
		return false
	}
	size := unsafe.Sizeof(api.Alt{})
	at, from := uintptr(unsafe.Pointer(unsafe.SliceData(a))), uintptr(unsafe.Pointer(unsafe.SliceData(b)))
	return at < from+uintptr(cap(b))*size && from < at+uintptr(cap(a))*size
}

// TestNewMemory: what is handed out is new, whatever it is made of.
func TestNewMemory(t *testing.T) {
	for _, s := range append(mayShapes(), mayNotShapes()...) {
		// With room behind them, so that an append could stay in it.
		s.Alts = append(slices.Grow([]api.Alt(nil), len(s.Alts)+50), s.Alts...)
		if shares(Options(s), s.Alts) || shares(Options(s), Options(s)) {
			t.Errorf("Options(%v) shares its memory", s)
		}
		w := Walls(s, 60)
		if shares(w.Alts, s.Alts) || shares(w.Alts, Walls(s, 60).Alts) || shares(Options(w), w.Alts) {
			t.Errorf("Walls(%v, 60) shares its memory", s)
		}
	}
}

// TestNothingIsChanged: what is handed in stays as it is, its spare room too.
func TestNothingIsChanged(t *testing.T) {
	for _, s := range append(mayShapes(), mayNotShapes()...) {
		whole := append(slices.Clone(s.Alts), alts(11, 12, 13, 14, 15, 16, 17, 18)...)
		was := slices.Clone(whole)
		s.Alts = whole[:len(s.Alts)]
		Check(s)
		Least(s)
		Most(s)
		Allows(s, 0, 4)
		Same(s, s)
		for _, l := range [][]api.Alt{Options(s), Walls(s, 77).Alts} {
			l = l[:cap(l)]
			for i := range l {
				l[i] = api.Alt{Nodes: 99, Wall: 99}
			}
		}
		if !slices.Equal(whole, was) {
			t.Errorf("%v: %v became %v", s, was, whole)
		}
	}
}

// TestNothingIsKept: a call hangs on its arguments alone.
func TestNothingIsKept(t *testing.T) {
	a, b, c := moldable(4, 10, 2, 20), malleable(2, 4, 60), rigid(4, 60, 2, 60)
	for range 3 {
		for _, s := range []api.Shape{a, c, b, {}, a, b, c} {
			holds(t, s)
			walls(t, s, 7)
			allows(t, s)
		}
	}
	// A shape whose list is changed is another one.
	holds(t, a)
	a.Alts[1].Nodes = 4
	holds(t, a)
	a.Alts[1].Nodes = 3
	holds(t, a)
	allows(t, a)
}
