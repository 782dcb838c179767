package cmd

import (
	"encoding/hex"
	"math"
	"math/rand"
	"reflect"
	"regexp"
	"slices"
	"sort"
	"strconv"
	"strings"
	"testing"
	"unicode/utf8"
	"unsafe"

	"muster/api"
	"muster/lex"
)

// alts is a list of alternatives: the Nodes and the Wall of each, in turn.
func alts(numbers ...int) []api.Alt {
	l := []api.Alt{}
	for i := 0; i+1 < len(numbers); i += 2 {
		l = append(l, api.Alt{Nodes: numbers[i], Wall: numbers[i+1]})
	}
	return l
}

// after is a list of dependencies: the How and the Job of each, in turn.
func after(numbers ...int) []api.Dep {
	l := []api.Dep{}
	for i := 0; i+1 < len(numbers); i += 2 {
		l = append(l, api.Dep{How: numbers[i], Job: numbers[i+1]})
	}
	return l
}

// rigid, moldable and malleable are shapes of these kinds.
func rigid(nodes, wall int) api.Shape   { return api.Shape{Kind: 1, Alts: alts(nodes, wall)} }
func moldable(numbers ...int) api.Shape { return api.Shape{Kind: 2, Alts: alts(numbers...)} }
func malleable(least, most, w int) api.Shape {
	return api.Shape{Kind: 3, Min: least, Max: most, Wall: w}
}

// submit is a submission of a name, for user u on account x.
func submit(name string, s api.Shape) api.Cmd {
	return api.Cmd{Kind: 1, Name: name, User: "u", Account: "x", Shape: s}
}

// ofPrio is c, with a priority; behind is c, behind dependencies; timed is c, with a time.
func ofPrio(c api.Cmd, prio int) api.Cmd       { c.Prio, c.HasPrio = prio, true; return c }
func behind(c api.Cmd, numbers ...int) api.Cmd { c.After = after(numbers...); return c }
func timed(c api.Cmd, ticks int) api.Cmd       { c.Time, c.HasTime = ticks, true; return c }

// onJob, onNode and reserve are commands of the other Kinds.
func onJob(kind, job int) api.Cmd   { return api.Cmd{Kind: kind, Job: job} }
func onNode(kind, node int) api.Cmd { return api.Cmd{Kind: kind, Node: node} }
func resize(job, nodes int) api.Cmd { return api.Cmd{Kind: 6, Job: job, Nodes: nodes} }
func reserve(from, nodes, ticks int) api.Cmd {
	return api.Cmd{Kind: 10, From: from, Nodes: nodes, Time: ticks, HasTime: true}
}

// odd are numbers that are no id, no tick, no length, no priority, no size and no node's.
var odd = []int{
	-1, -2, -48, -100000, 1000001, 1 << 20, math.MaxInt32, math.MaxInt32 + 1, 1<<32 + 1, 1<<32 + 4,
	math.MinInt32, -1<<32 + 1, math.MinInt + 1, math.MinInt, math.MaxInt - 1, math.MaxInt,
}

// bare is c, its empty lists nil.
func bare(c api.Cmd) api.Cmd {
	if len(c.After) == 0 {
		c.After = nil
	}
	if len(c.Shape.Alts) == 0 {
		c.Shape.Alts = nil
	}
	return c
}

// sameCmd tells whether two commands are the same, an empty list as good as nil.
func sameCmd(a, b api.Cmd) bool { return reflect.DeepEqual(bare(a), bare(b)) }

// nothing tells whether c is the zero value.
func nothing(c api.Cmd) bool { return sameCmd(c, api.Cmd{}) }

// isBad tells by chapter 4's words whether a rune is Bad.
func isBad(r rune) bool {
	return r < 9 || r >= 0xa && r <= 0x1f || r >= 0x7f && r <= 0xa0 || r == 0xfffd
}

// nameMay tells by the chapter's words whether s is a name.
func nameMay(s string) bool {
	n := utf8.RuneCountInString(s)
	return n > 0 && n < 17 && !strings.ContainsFunc(s, isBad)
}

// wordMay tells by chapter 5's words whether s is a token's word.
func wordMay(s string) bool {
	letter := func(r rune) bool { return r >= 'a' && r <= 'z' || r > 0xa0 && !isBad(r) }
	for i, r := range s {
		if !letter(r) && (i == 0 || !(r >= '0' && r <= '9' || r == '-' || r == '_')) {
			return false
		}
	}
	return s != ""
}

// shapeMay tells by chapter 7's words whether a shape may be.
func shapeMay(s api.Shape) bool {
	sizes := map[int]int{}
	for _, a := range s.Alts {
		sizes[a.Nodes]++
		if a.Nodes < 1 || a.Nodes > 48 || a.Wall < 1 || a.Wall > 100000 {
			return false
		}
	}
	n, spanless := len(s.Alts), s.Min == 0 && s.Max == 0 && s.Wall == 0
	switch s.Kind {
	case 1:
		return n == 1 && spanless
	case 2:
		return n > 0 && n < 7 && len(sizes) == n && spanless
	case 3:
		return n == 0 && s.Min > 0 && s.Max >= s.Min && s.Max < 49 && s.Wall > 0 && s.Wall < 100001
	}
	return false
}

// afterMayBe tells by the chapter's words whether dependencies may be.
func afterMayBe(l []api.Dep) bool {
	jobs := map[int]int{}
	for _, d := range l {
		jobs[d.Job]++
		if d.How < 1 || d.How > 3 || d.Job < 1 || d.Job > 99999 {
			return false
		}
	}
	return len(l) < 5 && len(jobs) == len(l)
}

// cmdMay tells by the chapter's words whether a command may be.
func cmdMay(c api.Cmd) bool {
	id := c.Job > 0 && c.Job < 100000
	size := c.Nodes > 0 && c.Nodes < 49
	prio := c.HasPrio && c.Prio >= 0 && c.Prio < 101 || !c.HasPrio && c.Prio == 0
	length := c.HasTime && c.Time > 0 && c.Time < 100001
	// What it has by its Kind is taken away: nothing is left over.
	may, left := false, c
	left.Kind = 0
	switch c.Kind {
	case 1:
		may = nameMay(c.Name) && nameMay(c.User) && wordMay(c.User) && nameMay(c.Account) && wordMay(c.Account) &&
			shapeMay(c.Shape) && prio && afterMayBe(c.After)
		left.Name, left.User, left.Account, left.Shape, left.After = "", "", "", api.Shape{}, nil
		left.Prio, left.HasPrio = 0, false
	case 2, 3, 4, 11:
		may = id
		left.Job = 0
	case 5:
		may = id && prio && (length || !c.HasTime && c.Time == 0) && (c.HasPrio || c.HasTime)
		left.Job, left.Prio, left.HasPrio, left.Time, left.HasTime = 0, 0, false, 0, false
	case 6:
		may = id && size
		left.Job, left.Nodes = 0, 0
	case 7, 8, 9:
		may = c.Node >= 0 && c.Node < 48
		left.Node = 0
	case 10:
		may = c.From >= 0 && c.From < 1000001 && length && size
		left.From, left.Time, left.HasTime, left.Nodes = 0, 0, false, 0
	case 12:
		may = id || c.Job == 0
		left.Job = 0
	}
	return may && nothing(left)
}

// timeText writes a length as chapter 6 says.
func timeText(n int) string {
	s := ""
	for _, u := range []struct {
		ticks int
		sign  string
	}{{86400, "d"}, {3600, "h"}, {60, "m"}, {1, "s"}} {
		if n/u.ticks > 0 {
			s += strconv.Itoa(n/u.ticks) + u.sign
		}
		n %= u.ticks
	}
	return s
}

// verbs are the commands' words, hows those of the dependencies, each at its number.
var (
	verbs = []string{"", "submit", "cancel", "hold", "release", "alter", "resize", "drain", "resume", "fail", "reserve", "unreserve", "status"}
	deps  = []string{"", "any", "good", "bad"}
)

// fieldTexts writes the fields of a command that may be, in their order.
func fieldTexts(c api.Cmd) []string {
	var l []string
	num := strconv.Itoa
	if c.Kind == 1 {
		l = append(l, "user="+c.User, "account="+c.Account)
	}
	if c.HasPrio {
		l = append(l, "prio="+num(c.Prio))
	}
	for _, d := range c.After {
		l = append(l, deps[d.How]+"="+num(d.Job))
	}
	switch {
	case c.Kind == 10:
		l = append(l, "from="+num(c.From), "nodes="+num(c.Nodes))
	case c.Kind == 6:
		l = append(l, "nodes="+num(c.Nodes))
	case c.Shape.Kind == 1:
		l = append(l, "nodes="+num(c.Shape.Alts[0].Nodes), "time="+timeText(c.Shape.Alts[0].Wall))
	case c.Shape.Kind == 2:
		for _, a := range c.Shape.Alts {
			l = append(l, "alt="+num(a.Nodes)+":"+timeText(a.Wall))
		}
	case c.Shape.Kind == 3:
		l = append(l, "range="+num(c.Shape.Min)+"-"+num(c.Shape.Max), "time="+timeText(c.Shape.Wall))
	}
	if c.HasTime {
		l = append(l, "time="+timeText(c.Time))
	}
	return l
}

// quoted writes a name as a text.
func quoted(s string) string {
	return `"` + strings.NewReplacer(`"`, `\"`, `\`, `\\`).Replace(s) + `"`
}

// beginning writes what stands ahead of a command's fields.
func beginning(c api.Cmd) []string {
	l := []string{verbs[c.Kind]}
	switch c.Kind {
	case 1:
		if wordMay(c.Name) {
			return append(l, c.Name)
		}
		return append(l, quoted(c.Name))
	case 7, 8, 9:
		return append(l, strconv.Itoa(c.Node))
	case 10:
		return l
	case 12:
		if c.Job == 0 {
			return l
		}
	}
	return append(l, strconv.Itoa(c.Job))
}

// lineOf writes the line of a command that may be, by the chapter's words.
func lineOf(c api.Cmd) string {
	return strings.Join(append(beginning(c), fieldTexts(c)...), " ")
}

// told asks Check and Show of one command.
func told(t *testing.T, c api.Cmd) {
	t.Helper()
	e, s := api.ErrSyntax, ""
	if cmdMay(c) {
		e, s = api.OK, lineOf(c)
	}
	if got := Check(c); got != e {
		t.Errorf("Check(%v) = %d, not %d", c, int(got), int(e))
	}
	if got, f := Show(c); got != s || f != e {
		t.Errorf("Show(%v) = %q, %d, not %q, %d", c, got, int(f), s, int(e))
	}
	if !Same(c, c) {
		t.Errorf("%v is not the same as itself", c)
	}
}

// read asks Parse of one line that is a command's, and Show of that.
func read(t *testing.T, line string, want api.Cmd) {
	t.Helper()
	c, n, e := Parse(line)
	if !sameCmd(c, want) || n != utf8.RuneCountInString(line) || e != api.OK {
		t.Errorf("Parse(%q) = %v, %d, %d, not %v, %d", line, c, n, int(e), want, utf8.RuneCountInString(line))
	}
	told(t, c)
	if !Same(c, want) {
		t.Errorf("Parse(%q): %v is not the same as %v", line, c, want)
	}
}

// wrong asks Parse of one line that is none's.
func wrong(t *testing.T, line string, at int, e api.Errno) {
	t.Helper()
	if c, n, got := Parse(line); !nothing(c) || n != at || got != e {
		t.Errorf("Parse(%q) = %v, %d, %d, not %d, %d", line, c, n, int(got), at, int(e))
	}
}

// faulty asks Parse of a line in which the first token that may not be stands
// behind a ^, or whose place of the fault is at its end, if there is none.
func faulty(t *testing.T, marked string) {
	t.Helper()
	ahead, rest, _ := strings.Cut(marked, "^")
	wrong(t, ahead+rest, utf8.RuneCountInString(ahead), api.ErrSyntax)
}

// mayShapes are shapes that may be, of each kind.
func mayShapes() []api.Shape {
	return []api.Shape{
		rigid(1, 1), rigid(4, 60), rigid(48, 100000), rigid(48, 1), rigid(1, 100000), rigid(2, 3661),
		moldable(1, 1), moldable(48, 100000), moldable(4, 60, 2, 90), moldable(2, 90, 4, 60), moldable(1, 5, 48, 5),
		moldable(8, 10, 1, 80, 4, 20), moldable(6, 1, 5, 1, 4, 1, 3, 1, 2, 1, 1, 1),
		moldable(48, 1, 1, 100000, 24, 7, 47, 7, 2, 9, 46, 8),
		malleable(1, 1, 1), malleable(1, 48, 100000), malleable(48, 48, 1), malleable(2, 8, 3600), malleable(47, 48, 9),
	}
}

// names are names: of one rune and of 16, of one byte each and of more, words and others.
var names = []string{
	"a", "z", "_", "é", "中", "\U00010000", "A", "7", " ", "\t", `"`, `\`, "-", "=", "a-b", "a_b", "a2", "2a", "a b", "Ab", "aB",
	"É", "\u00a1", "\U0010ffff",
	"~", "!", "007", "1h30m", "submit", "user", "-a", "_a", "a=b", "a,b", "a:b", "a;b", `a"b`, `a\b`, `\"`, `a\\`, "status",
	" a", "a ", "  ", "a\tb",
	strings.Repeat("a", 16), strings.Repeat("é", 16), strings.Repeat("中", 16), strings.Repeat("\U00010000", 16),
	strings.Repeat("\U0010ffff", 15) + "b",
	strings.Repeat(" ", 16), strings.Repeat(`"`, 16), strings.Repeat(`\`, 16), strings.Repeat("A", 16),
	"a" + strings.Repeat("-", 15), "a" + strings.Repeat("_", 15),
	strings.Repeat("1", 16), "a" + strings.Repeat("0", 15), "aaaaaaaaaaaaaaaé",
}

// noNames are texts that are no names: of none and of 17 runes, and with a Bad one.
var noNames = []string{
	"", strings.Repeat("a", 17), strings.Repeat("é", 17), strings.Repeat("中", 17), strings.Repeat("\U00010000", 17),
	strings.Repeat(" ", 17), strings.Repeat(`"`, 17),
	"a" + strings.Repeat("-", 16), strings.Repeat("A", 17), strings.Repeat("a", 1<<20), "\x00", "a\x00", "\x00a", "a\nb",
	"\x7f", "a\u00a0", "\x80", "a\xff", "\xc3", "\ufffd", "a\ufffdb", "\xed\xa0\x80",
	"\x1f", "a\x08", strings.Repeat("a", 15) + "\n", strings.Repeat("\xff", 16),
}

// mayCmds are commands that may be, of each Kind.
func mayCmds() []api.Cmd {
	l := []api.Cmd{
		resize(1, 1), resize(99999, 48), resize(7, 4), resize(12, 47),
		reserve(0, 1, 1), reserve(1000000, 48, 100000), reserve(100, 3, 3600), reserve(999999, 47, 99999), reserve(1, 2, 59),
		onJob(12, 0), onJob(12, 1), onJob(12, 99999), onJob(12, 9),
		ofPrio(submit("a", rigid(2, 90)), 0), ofPrio(submit("a", rigid(2, 90)), 100), ofPrio(submit("a", malleable(1, 2, 5)), 1),
		behind(submit("a", rigid(2, 90)), 1, 1), behind(submit("a", rigid(2, 90)), 3, 99999, 2, 1, 1, 5, 3, 7),
		behind(submit("a", moldable(2, 90, 1, 80)), 2, 8, 2, 3, 2, 9), behind(submit("a", rigid(1, 1)), 1, 4, 1, 3, 1, 2, 1, 1),
		behind(ofPrio(submit("A b", moldable(4, 60, 2, 120)), 5), 2, 3, 1, 4),
	}
	for _, kind := range []int{2, 3, 4, 11} {
		l = append(l, onJob(kind, 1), onJob(kind, 7), onJob(kind, 99998), onJob(kind, 99999))
	}
	for _, kind := range []int{7, 8, 9} {
		l = append(l, onNode(kind, 0), onNode(kind, 1), onNode(kind, 46), onNode(kind, 47))
	}
	for _, job := range []int{1, 99999} {
		c := onJob(5, job)
		l = append(l, ofPrio(c, 0), ofPrio(c, 3), ofPrio(c, 100), timed(c, 1), timed(c, 100000), timed(ofPrio(c, 0), 5), timed(ofPrio(c, 100), 86400))
	}
	for _, s := range mayShapes() {
		l = append(l, submit("a", s), behind(ofPrio(submit("a", s), 50), 1, 1, 2, 2, 3, 3, 1, 99999))
	}
	for _, name := range names {
		l = append(l, submit(name, rigid(1, 1)))
		if wordMay(name) {
			c := submit("a", rigid(1, 1))
			c.User = name
			l = append(l, c)
			c.Account = name
			l = append(l, c)
			c.User = "u"
			l = append(l, c)
		}
	}
	return l
}

// extras are what a command may have beside what it has, each one field.
func extras(c api.Cmd) []api.Cmd {
	l := make([]api.Cmd, 16)
	for i := range l {
		l[i] = c
	}
	l[0].Name = "a"
	l[1].User = "u"
	l[2].Account = "x"
	l[3].Shape = rigid(1, 1)
	l[4].Shape.Kind = 1
	l[5].Shape.Alts = alts(0, 0)
	l[6].Shape.Min = 1
	l[7].Shape.Max = -1
	l[8].Shape.Wall = 60
	l[9].After = after(1, 1)
	l[10].After = after(0, 0)
	l[11].HasPrio = true
	l[12].Prio = 1
	l[13].Prio = -1
	l[14].HasTime = true
	l[15].Time = 1
	for _, n := range []int{1, 47, -1, math.MaxInt, math.MinInt} {
		for _, set := range []func(*api.Cmd){
			func(c *api.Cmd) { c.Job = n }, func(c *api.Cmd) { c.Node = n }, func(c *api.Cmd) { c.Nodes = n }, func(c *api.Cmd) { c.From = n },
			func(c *api.Cmd) { c.Time, c.HasTime = n, true }, func(c *api.Cmd) { c.Prio, c.HasPrio = n, true },
		} {
			d := c
			set(&d)
			l = append(l, d)
		}
	}
	return l
}

// TestMay: P8.1 and P8.2, of commands that may be.
func TestMay(t *testing.T) {
	for _, c := range mayCmds() {
		if e := Check(c); e != api.OK {
			t.Errorf("Check(%v) = %d", c, int(e))
		}
		told(t, c)
		// Nil is as good as an empty list.
		if len(c.After) == 0 {
			c.After = after()
			told(t, c)
			c.After = nil
			told(t, c)
		}
		if len(c.Shape.Alts) == 0 {
			c.Shape.Alts = alts()
			told(t, c)
			c.Shape.Alts = nil
			told(t, c)
		}
	}
}

// TestMayNot: P8.1 and P8.2, of commands that may not be, told by hand.
func TestMayNot(t *testing.T) {
	a := submit("a", rigid(1, 1))
	l := []api.Cmd{
		{}, {Kind: 1}, {Kind: 2}, {Kind: 3}, {Kind: 4}, {Kind: 5}, {Kind: 6}, {Kind: 10}, {Kind: 11}, {Kind: 13}, {Kind: -1},
		submit("a", api.Shape{}), submit("a", rigid(49, 1)), submit("a", rigid(1, 100001)), submit("a", rigid(0, 1)), submit("a", rigid(1, 0)),
		submit("a", moldable()), submit("a", moldable(1, 1, 1, 2)), submit("a", moldable(1, 1, 2, 1, 3, 1, 4, 1, 5, 1, 6, 1, 7, 1)),
		submit("a", malleable(2, 1, 5)), submit("a", malleable(1, 49, 5)), submit("a", malleable(1, 2, 100001)),
		submit("a", api.Shape{Kind: 1, Alts: alts(1, 1, 2, 2)}), submit("a", api.Shape{Kind: 4, Alts: alts(1, 1)}),
		ofPrio(a, -1), ofPrio(a, 101), ofPrio(onJob(5, 1), -1), ofPrio(onJob(5, 1), 101),
		{Kind: 5, Job: 1}, {Kind: 5, Job: 1, Prio: 1}, {Kind: 5, Job: 1, Time: 1}, {Kind: 5, Job: 1, Prio: 1, Time: 1, HasTime: true},
		{Kind: 5, Job: 1, Prio: 1, HasPrio: true, Time: 1}, {Kind: 5, Prio: 1, HasPrio: true}, {Kind: 5, Time: 1, HasTime: true},
		timed(onJob(5, 1), 0), timed(onJob(5, 1), -1), timed(onJob(5, 1), 100001), timed(ofPrio(onJob(5, 1), 101), 5),
		timed(ofPrio(onJob(5, 1), 5), 0),
		behind(a, 0, 1), behind(a, 4, 1), behind(a, -1, 1), behind(a, 1, 0), behind(a, 1, 100000), behind(a, 1, -1),
		behind(a, 257, 1), behind(a, 1<<32+1, 1),
		behind(a, 1, 1, 1, 1), behind(a, 1, 1, 2, 1), behind(a, 1, 5, 2, 4, 3, 5), behind(a, 1, 5, 2, 4, 3, 3, 2, 5),
		behind(a, 1, 1, 1, 2, 1, 3, 0, 4),
		behind(a, 1, 1, 1, 2, 1, 3, 1, 100000), behind(a, 1, 1, 1, 2, 1, 3, 1, 4, 1, 5), behind(a, 0, 0),
		behind(a, 1, math.MinInt), behind(a, math.MaxInt, 1),
		resize(0, 1), resize(100000, 1), resize(-1, 1), resize(1, 0), resize(1, 49), resize(1, -1),
		onNode(7, -1), onNode(8, -1), onNode(9, -1), onNode(7, 48), onNode(8, 48), onNode(9, 48),
		reserve(-1, 1, 1), reserve(1000001, 1, 1), reserve(1, 0, 1), reserve(1, 49, 1), reserve(1, 1, 0), reserve(1, 1, 100001),
		reserve(1, -1, 1), reserve(1, 1, -1),
		{Kind: 10, From: 1, Nodes: 1}, {Kind: 10, From: 1, Nodes: 1, Time: 5}, {Kind: 10, From: 1, Nodes: 1, HasTime: true},
		onJob(12, -1), onJob(12, 100000), onJob(2, 0), onJob(3, 0), onJob(4, 0), onJob(11, 0), onJob(2, 100000), onJob(3, 100000),
		onJob(4, 100000), onJob(11, 100000),
	}
	for _, n := range odd {
		l = append(l, onJob(2, n), onJob(3, n), onJob(4, n), onJob(11, n), onJob(12, n), ofPrio(onJob(5, n), 1), ofPrio(onJob(5, 1), n), timed(onJob(5, 1), n),
			resize(n, 1), resize(1, n), onNode(7, n), onNode(8, n), onNode(9, n), reserve(n, 1, 1), reserve(1, n, 1), reserve(1, 1, n), ofPrio(a, n),
			behind(a, n, 1), behind(a, 1, n), submit("a", rigid(n, 1)), submit("a", rigid(1, n)), submit("a", malleable(1, n, 5)))
	}
	for _, c := range l {
		if e := Check(c); e != api.ErrSyntax {
			t.Errorf("Check(%v) = %d", c, int(e))
		}
		told(t, c)
	}
	// Far more than may be.
	a.After = make([]api.Dep, 1<<20)
	for i := range a.After {
		a.After[i] = api.Dep{How: 1, Job: i%99999 + 1}
	}
	if e := Check(a); e != api.ErrSyntax {
		t.Errorf("a million dependencies: %d", int(e))
	}
}

// TestOneFieldMore: P8.1, of each Kind with a field that it doesn't have, and of one that it has another number in.
func TestOneFieldMore(t *testing.T) {
	may := 0
	for _, c := range mayCmds() {
		for _, d := range extras(c) {
			told(t, d)
			if cmdMay(d) && !sameCmd(c, d) {
				may++
			}
		}
	}
	if may < 100 {
		t.Errorf("only %d that may be", may)
	}
	// None but those of its own may be set in a cancel.
	for i, d := range extras(onJob(2, 5)) {
		if e := Check(d); e != api.ErrSyntax && !(d.Job != 5 && d.Job > 0 && d.Job < 100000) {
			t.Errorf("extra %d: Check(%v) = %d", i, d, int(e))
		}
	}
}

// TestNoKinds: P8.1, of Kinds that are none.
func TestNoKinds(t *testing.T) {
	for _, c := range mayCmds() {
		for _, kind := range append([]int{0, 13, 14, 256, 257, 258, 268, 1<<32 + 12}, odd...) {
			c.Kind = kind
			if e := Check(c); e != api.ErrSyntax {
				t.Errorf("Check(%v) = %d", c, int(e))
			}
			told(t, c)
		}
		for kind := range 14 {
			c.Kind = kind
			told(t, c)
		}
	}
}

// TestNames: P8.1 to P8.3, of names and of texts that are none.
func TestNames(t *testing.T) {
	a := submit("a", rigid(1, 1))
	for _, name := range append(slices.Clone(names), noNames...) {
		c := a
		c.Name = name
		told(t, c)
		if got := Check(c) == api.OK; got != slices.Contains(names, name) {
			t.Errorf("the name %.40q: %v", name, got)
		}
		c.Name, c.User = "a", name
		told(t, c)
		c.User, c.Account = "u", name
		told(t, c)
		if strings.ContainsFunc(name, isBad) || len(name) > 100 {
			continue
		}
		// As a text, it is read in any case.
		line := "submit " + quoted(name) + " user=u account=x nodes=1 time=1"
		if nameMay(name) {
			read(t, line, submit(name, rigid(1, 1)))
		} else {
			wrong(t, line, 7, api.ErrSyntax)
		}
	}
	for _, x := range []struct{ name, text string }{
		{"a", "a"}, {"a-b_2", "a-b_2"}, {"é", "é"}, {"中É", "中É"}, {"submit", "submit"},
		{"A", `"A"`}, {"2a", `"2a"`}, {"7", `"7"`}, {"a b", `"a b"`}, {`a"b`, `"a\"b"`}, {`\`, `"\\"`}, {"-", `"-"`},
		{"_a", `"_a"`}, {" ", `" "`}, {"\t", "\"\t\""}, {"a=b", `"a=b"`},
	} {
		want := "submit " + x.text + " user=u account=x nodes=1 time=1s"
		if s, e := Show(submit(x.name, rigid(1, 1))); s != want || e != api.OK {
			t.Errorf("the name %q: %q, %d", x.name, s, int(e))
		}
		read(t, want, submit(x.name, rigid(1, 1)))
	}
	// A word is of small letters, a text is as it is.
	read(t, "submit AbÉ user=U account=xY nodes=1 time=1", api.Cmd{Kind: 1, Name: "abÉ", User: "u", Account: "xy", Shape: rigid(1, 1)})
	read(t, `submit "AbÉ" user=u account=x nodes=1 time=1`, submit("AbÉ", rigid(1, 1)))
	for _, s := range []string{"A", "7", "a b", "_", "-a", "a=", "aB", `"`, " a", "a "} {
		for _, c := range []api.Cmd{{Kind: 1, Name: "a", User: s, Account: "x", Shape: rigid(1, 1)}, {Kind: 1, Name: "a", User: "u", Account: s, Shape: rigid(1, 1)}} {
			if e := Check(c); e != api.ErrSyntax {
				t.Errorf("Check(%v) = %d", c, int(e))
			}
		}
	}
}

// TestShow: P8.2, told by hand.
func TestShow(t *testing.T) {
	full := behind(ofPrio(submit("a", rigid(2, 90)), 0), 3, 9, 1, 8, 2, 7, 3, 6)
	for _, x := range []struct {
		c    api.Cmd
		want string
	}{
		// The chapter's example.
		{submit("a", rigid(2, 90)), "submit a user=u account=x nodes=2 time=1m30s"},
		{full, "submit a user=u account=x prio=0 bad=9 any=8 good=7 bad=6 nodes=2 time=1m30s"},
		{behind(ofPrio(submit("A b", moldable(4, 60, 2, 120)), 5), 2, 3, 1, 4), `submit "A b" user=u account=x prio=5 good=3 any=4 alt=4:1m alt=2:2m`},
		{submit("a", moldable(2, 120)), "submit a user=u account=x alt=2:2m"},
		{submit("a", malleable(2, 8, 3600)), "submit a user=u account=x range=2-8 time=1h"},
		{submit("a", malleable(8, 8, 100000)), "submit a user=u account=x range=8-8 time=1d3h46m40s"},
		{submit("a", rigid(48, 86400)), "submit a user=u account=x nodes=48 time=1d"},
		{onJob(2, 7), "cancel 7"}, {onJob(3, 1), "hold 1"}, {onJob(4, 99999), "release 99999"},
		{ofPrio(onJob(5, 7), 3), "alter 7 prio=3"}, {timed(onJob(5, 7), 5), "alter 7 time=5s"},
		{timed(ofPrio(onJob(5, 7), 0), 3661), "alter 7 prio=0 time=1h1m1s"},
		{resize(7, 4), "resize 7 nodes=4"},
		{onNode(7, 0), "drain 0"}, {onNode(8, 47), "resume 47"}, {onNode(9, 3), "fail 3"},
		{reserve(100, 3, 3600), "reserve from=100 nodes=3 time=1h"}, {reserve(0, 48, 1), "reserve from=0 nodes=48 time=1s"},
		{reserve(1000000, 1, 60), "reserve from=1000000 nodes=1 time=1m"},
		{onJob(11, 2), "unreserve 2"}, {onJob(12, 0), "status"}, {onJob(12, 9), "status 9"},
	} {
		if s, e := Show(x.c); s != x.want || e != api.OK {
			t.Errorf("Show(%v) = %q, %d, not %q", x.c, s, int(e), x.want)
		}
		read(t, x.want, x.c)
	}
}

// TestLongLines: P8.2 and P8.3, at MaxLine bytes and one more.
func TestLongLines(t *testing.T) {
	// The longest line that a command may have is shorter.
	name := strings.Repeat("\U00010000", 15)
	c := submit(name+"\U0010ffff", moldable(48, 99999, 47, 99999, 46, 99999, 45, 99999, 44, 99999, 43, 99999))
	c.User, c.Account = name+"\U00010001", name+"\U00010002"
	c = behind(ofPrio(c, 100), 2, 99999, 2, 99998, 2, 99997, 2, 99996)
	for _, x := range []struct {
		name  string
		bytes int
	}{{c.Name, 375}, {"!" + name, 374}} {
		c.Name = x.name
		if s, e := Show(c); len(s) != x.bytes || e != api.OK {
			t.Errorf("%q: %d bytes, %d", s, len(s), int(e))
		}
		told(t, c)
		s, _ := Show(c)
		read(t, s, c)
		// With blanks, up to the end.
		for _, ahead := range []int{0, 1, api.MaxLine - len(s)} {
			read(t, strings.Repeat(" ", ahead)+s+strings.Repeat(" ", api.MaxLine-len(s)-ahead), c)
			wrong(t, strings.Repeat(" ", ahead)+s+strings.Repeat(" ", api.MaxLine+1-len(s)-ahead), 0, api.ErrBig)
		}
	}
	read(t, strings.Repeat("\t", 394)+"status", onJob(12, 0))
	wrong(t, strings.Repeat("\t", 395)+"status", 0, api.ErrBig)
	wrong(t, strings.Repeat(" ", 400), 400, api.ErrSyntax)
	wrong(t, strings.Repeat(" ", 401), 0, api.ErrBig)
	wrong(t, strings.Repeat("a", 400), 0, api.ErrSyntax)
	wrong(t, strings.Repeat("a", 401), 0, api.ErrBig)
	wrong(t, "\x00"+strings.Repeat("a", 400), 0, api.ErrBig)
	wrong(t, strings.Repeat("é", 200), 0, api.ErrSyntax)
	wrong(t, "cancel "+strings.Repeat(" ", 393), 400, api.ErrSyntax)
	wrong(t, strings.Repeat("a", 1<<20), 0, api.ErrBig)
}

// TestParse: P8.3, of lines that are written in other ways than Show's, told by hand.
func TestParse(t *testing.T) {
	a := submit("a", rigid(2, 90))
	for _, x := range []struct {
		line string
		want api.Cmd
	}{
		// Fields in any order.
		{"Submit A time=90 nodes=2 Account=x User=u", a},
		{"submit a time=1m30s account=x nodes=2 user=u", a},
		{"submit a nodes=2 user=u time=90 account=x", a},
		{"submit a prio=3 time=90 nodes=2 account=x user=u", ofPrio(a, 3)},
		{"submit a time=90 range=2-4 account=x user=u", submit("a", malleable(2, 4, 90))},
		{"alter 7 time=5s prio=0", timed(ofPrio(onJob(5, 7), 0), 5)},
		{"reserve time=1h nodes=3 from=100", reserve(100, 3, 3600)},
		{"reserve nodes=3 time=1h from=0", reserve(0, 3, 3600)},
		// The order of After, and of Alts, is theirs, whatever stands between.
		{`submit "a" user=u account=x any=9 nodes=2 good=8 time=90s`, behind(a, 1, 9, 2, 8)},
		{"submit a good=8 user=u any=9 account=x nodes=2 bad=1 time=90s any=7", behind(a, 2, 8, 1, 9, 3, 1, 1, 7)},
		{"submit a any=9 any=8 user=u account=x nodes=2 time=90s any=7 any=6", behind(a, 1, 9, 1, 8, 1, 7, 1, 6)},
		{"submit a alt=2:5 user=u alt=4:3 prio=1 alt=3:4 account=x", ofPrio(submit("a", moldable(2, 5, 4, 3, 3, 4)), 1)},
		{"submit a alt=1:1 alt=2:1 alt=3:1 user=u account=x alt=6:1 alt=5:1 alt=4:1", submit("a", moldable(1, 1, 2, 1, 3, 1, 6, 1, 5, 1, 4, 1))},
		{"submit a user=u account=x alt=2:90", submit("a", moldable(2, 90))},
		// Times in other ways.
		{"submit a user=u account=x nodes=2 time=90s", a}, {"submit a user=u account=x nodes=2 time=0h1m30s", a},
		{"submit a user=u account=x nodes=2 time=0d0h0m90s", a},
		{"submit a user=u account=x alt=2:1m30s alt=1:0d1h", submit("a", moldable(2, 90, 1, 3600))},
		{"submit a user=u account=x alt=2:90 alt=1:60m", submit("a", moldable(2, 90, 1, 3600))}, {"alter 7 time=24h", timed(onJob(5, 7), 86400)},
		{"alter 7 time=100000", timed(onJob(5, 7), 100000)}, {"alter 7 time=100000s", timed(onJob(5, 7), 100000)},
		{"alter 7 time=1666m40s", timed(onJob(5, 7), 100000)},
		{"alter 7 time=1", timed(onJob(5, 7), 1)}, {"reserve from=5 nodes=1 time=100000", reserve(5, 1, 100000)},
		{"reserve from=5 nodes=1 time=0m1s", reserve(5, 1, 1)},
		{"submit a user=u account=x range=1-1 time=100000", submit("a", malleable(1, 1, 100000))},
		// Blanks, and none.
		{" status", onJob(12, 0)}, {"status ", onJob(12, 0)}, {"\tstatus \t 9\t", onJob(12, 9)}, {"cancel\t7", onJob(2, 7)},
		{"  submit  a\tuser = u account =x nodes= 2 time\t=\t90  ", a},
		{"submit a user=u account=x alt = 2 : 90 alt=1: 5 alt=3 :6", submit("a", moldable(2, 90, 1, 5, 3, 6))},
		{"submit a user=u account=x range = 2 - 4 time = 90", submit("a", malleable(2, 4, 90))},
		{"submit a user=u account=x range=2 -4 time=90", submit("a", malleable(2, 4, 90))},
		{`submit"a"user=u account=x nodes=2 time=90`, a},
		// Words in any case.
		{"SUBMIT A USER=U ACCOUNT=X NODES=2 TIME=90", a}, {"Status", onJob(12, 0)}, {"UnReserve 2", onJob(11, 2)},
		{"aLTER 7 pRIO=3", ofPrio(onJob(5, 7), 3)},
		// Words that are others' words.
		{"submit user user=submit account=account nodes=2 time=90", api.Cmd{Kind: 1, Name: "user", User: "submit", Account: "account", Shape: rigid(2, 90)}},
		{"submit alt user=range account=alt alt=2:90", api.Cmd{Kind: 1, Name: "alt", User: "range", Account: "alt", Shape: moldable(2, 90)}},
		// Numbers at their limits.
		{"cancel 1", onJob(2, 1)}, {"hold 99999", onJob(3, 99999)}, {"release 1", onJob(4, 1)},
		{"unreserve 99999", onJob(11, 99999)}, {"status 1", onJob(12, 1)}, {"status 99999", onJob(12, 99999)},
		{"drain 0", onNode(7, 0)}, {"resume 0", onNode(8, 0)}, {"fail 47", onNode(9, 47)}, {"drain 47", onNode(7, 47)},
		{"resize 99999 nodes=48", resize(99999, 48)}, {"resize 1 nodes=1", resize(1, 1)},
		{"reserve from=1000000 nodes=48 time=100000", reserve(1000000, 48, 100000)},
		{"reserve from=0 nodes=1 time=1", reserve(0, 1, 1)}, {"alter 1 prio=100", ofPrio(onJob(5, 1), 100)},
		{"submit a user=u account=x prio=0 nodes=48 time=1", ofPrio(submit("a", rigid(48, 1)), 0)},
		{"submit a user=u account=x range=48-48 time=1", submit("a", malleable(48, 48, 1))},
		{"submit a user=u account=x any=99999 good=1 alt=48:100000", behind(submit("a", moldable(48, 100000)), 1, 99999, 2, 1)},
	} {
		read(t, x.line, x.want)
	}
}

// TestFaults: P8.3, the place of the first token with which no line goes on.
func TestFaults(t *testing.T) {
	for _, marked := range []string{
		// No command's word.
		"^foo", "^submitt a", "^submi", " \t ^foo", "^7", "^5s", `^"submit" a`, `^"status"`, "^= 5", "^-status", "^user=u", "^é",
		"^any=1", "^Statu", "^a 7",
		// The Name.
		"submit ^7", "submit ^5s user=u", "submit ^=a", "submit ^-", "submit ^\"\" user=u", "submit ^aaaaaaaaaaaaaaaaa",
		"submit ^\"aaaaaaaaaaaaaaaaa\"", "submit ^ééééééééééééééééé user=u",
		"submit a ^b", "submit a ^7", `submit a ^"user"=u`, "submit a ^=", "submit a ^submit", "submit user^=u",
		// The number.
		"cancel ^x", "cancel ^0", "cancel ^100000", "cancel ^999999999", "cancel ^5s", `cancel ^"5"`, "cancel ^=5", "cancel ^-5",
		"cancel ^- 5", "hold ^0", "hold ^a", "release ^0", "release ^100000", "release ^job",
		"alter ^0 prio=1", "alter ^100000 prio=1", "alter ^prio=1", "resize ^0 nodes=1", "resize ^100000 nodes=1",
		"resize ^nodes=4", "unreserve ^0", "unreserve ^100000", "unreserve ^a",
		"drain ^48", "drain ^-1", "drain ^a", "drain ^5s", "resume ^48", "resume ^node", "fail ^48", "fail ^100", `fail ^"3"`,
		"status ^0", "status ^100000", "status ^x", "status ^=", "status ^5s", `status ^""`,
		"reserve ^5 from=5", "reserve ^a", "reserve ^=", "reserve ^5", `reserve ^"from"=5`,
		// More than there is.
		"cancel 5 ^6", "cancel 5 ^x", "cancel 5 ^prio=1", "cancel 5 ^user=u", "cancel 5 ^=", "hold 5 ^hold", "hold 5 ^time=5",
		"release 5 ^nodes=1", "unreserve 2 ^from=1", "status 9 ^9", "status 9 ^user=u", "status ^user=u",
		"drain 0 ^0", "drain 3 ^nodes=1", "resume 0 ^time=5", "fail 1 ^any=1",
		// Fields that the command does not have.
		"submit a ^from=5", "submit a user=u ^from=5", "submit a ^at=5", "submit a ^job=5", "submit a ^node=5", "submit a ^dep=5",
		"submit a ^wall=5", "submit a ^min=5", "submit a ^name=5", "submit a ^users=u",
		"alter 7 ^nodes=4", "alter 7 ^user=u", "alter 7 ^account=x", "alter 7 ^any=1", "alter 7 ^good=1", "alter 7 ^bad=1",
		"alter 7 ^from=5", "alter 7 ^alt=1:1", "alter 7 ^range=1-2", "alter 7 prio=1 ^nodes=1",
		"resize 7 ^time=5", "resize 7 ^prio=1", "resize 7 ^from=1", "resize 7 ^range=1-2", "resize 7 ^alt=1:5", "resize 7 ^user=u",
		"resize 7 nodes=4 ^time=5",
		"reserve ^prio=1", "reserve ^user=u", "reserve ^account=x", "reserve ^any=1", "reserve ^alt=1:1", "reserve ^range=1-2",
		"reserve from=1 ^prio=1", "reserve from=1 nodes=1 time=5 ^good=1",
		// A = that lacks.
		"submit a user ^u", "submit a user ^7", `submit a user ^"u"`, "submit a user^:u", "submit a account ^x",
		"submit a user=u account ^- x", "submit a prio ^5", "submit a any ^1", "submit a alt ^2:5", "submit a range ^2-4",
		"submit a nodes ^2", "submit a time ^90", "alter 7 prio ^3", "alter 7 time ^5s", "resize 7 nodes ^4", "reserve from ^5",
		"reserve from=5 nodes ^4", "reserve time^: 5", "submit a user ^account=x", "submit a user ^user=u",
		// A word in place of a number, and the other way round.
		"submit a user=^7", "submit a user=^5s", `submit a user=^"u"`, "submit a user=^=", "submit a user=u account=^7",
		`submit a account=^"x"`, "submit a account=^1h", "submit a prio=^x", "submit a prio=^5s", `submit a prio=^"5"`,
		"submit a prio=^-5",
		"submit a any=^x", "submit a good=^5s", "submit a bad=^-1", "submit a any=^any=1", "submit a nodes=^x",
		"submit a nodes=^2s", "submit a nodes=^=2", "submit a time=^x", `submit a time=^"90"`, "submit a time=^-5",
		"submit a time=^:",
		"alter 7 prio=^high", "alter 7 prio=^3s", "alter 7 time=^long", `alter 7 time=^"5s"`, "resize 7 nodes=^four",
		"resize 7 nodes=^4s", "reserve from=^now", "reserve from=^5s", "reserve from=^1m30s", "reserve nodes=^x",
		"reserve nodes=^3h", "reserve time=^x",
		// A field that stands a second time.
		"submit a user=u ^user=v", "submit a user=u ^user=u", "submit a account=x ^account=y", "submit a prio=1 ^prio=1",
		"submit a prio=0 ^prio=0", "submit a nodes=1 ^nodes=2", "submit a range=1-2 ^range=1-2", "submit a time=5 ^time=5",
		"submit a user=u account=x ^user", "submit a user=u account=x nodes=1 time=5 ^user=v", "alter 7 prio=0 ^prio=1",
		"alter 7 time=5s ^time=6s", "alter 7 prio=0 time=5s ^prio=0", "resize 7 nodes=4 ^nodes=4", "reserve from=0 ^from=0",
		"reserve from=5 nodes=1 ^nodes=1", "reserve from=5 time=5 ^time=5", "reserve from=5 nodes=1 time=5 ^from=5",
		// Numbers beyond their limits.
		"submit a prio=^101", "submit a prio=^999999999", "submit a any=^0", "submit a good=^100000", "submit a bad=^0",
		"submit a nodes=^0", "submit a nodes=^49", "submit a time=^0", "submit a time=^100001", "submit a time=^0s",
		"submit a time=^0d0h0m0s", "submit a time=^100001s", "submit a time=^2d", "submit a time=^1d3h46m41s",
		"submit a time=^12d", "submit a time=^5x", "submit a time=^1m1h", "submit a time=^01s", "submit a time=^1h30",
		"submit a time=^99999999s",
		"submit a alt=^0:5", "submit a alt=^49:5", "submit a alt=2:^0", "submit a alt=2:^100001", "submit a alt=2:^0s",
		"submit a alt=2:^2d", "submit a alt=2:^5x", "submit a alt=2:^1s1m", "submit a range=^0-4", "submit a range=^49-50",
		"submit a range=2-^0", "submit a range=2-^49", "submit a range=2-^999", "alter 7 prio=^101", "alter 7 time=^0",
		"alter 7 time=^100001", "alter 7 time=^0s", "alter 7 time=^2d", "alter 7 time=^12d", "resize 7 nodes=^0",
		"resize 7 nodes=^49",
		"reserve from=^1000001", "reserve from=^999999999", "reserve from=0 nodes=^0", "reserve nodes=^49", "reserve time=^0",
		"reserve time=^100001", "reserve time=^2d",
		// Names that are none.
		"submit a user=^aaaaaaaaaaaaaaaaa", "submit a account=^aaaaaaaaaaaaaaaaa", "submit a user=^ééééééééééééééééé account=x",
		"submit a user=aaaaaaaaaaaaaaaa account=^aaaaaaaaaaaaaaaaa nodes=2 time=5",
		// Dependencies: on a job that stands already, and a fifth one.
		"submit a any=3 good=^3", "submit a any=3 any=^3", "submit a any=1 good=2 bad=^1", "submit a any=1 good=2 bad=3 any=^2",
		"submit a any=1 user=u good=^1 account=x", "submit a any=1 any=2 any=3 any=4 ^good=5",
		"submit a any=1 good=2 bad=3 any=4 ^any=5",
		"submit a any=1 good=2 bad=3 any=4 ^bad=1", "submit a any=1 good=2 bad=3 any=4 ^any",
		"submit a bad=1 bad=2 bad=3 user=u bad=4 account=x nodes=2 time=5 ^bad=5",
		// A seventh alternative.
		"submit a alt=1:1 alt=2:1 alt=3:1 alt=4:1 alt=5:1 alt=6:1 ^alt=7:1",
		"submit a alt=1:1 alt=2:1 user=u alt=3:1 alt=4:1 account=x alt=5:1 alt=6:1 ^alt=7:1",
		"submit a alt=1:1 alt=1:1 alt=1:1 alt=1:1 alt=1:1 alt=1:1 ^alt=1:1",
		// What alt and range lack.
		"submit a alt=^x", "submit a alt=^2s", "submit a alt=^:5", `submit a alt=^"2"`, "submit a alt=^=", "submit a alt=2 ^5",
		"submit a alt=2^-5", "submit a alt=2^=5", "submit a alt=2^,5", "submit a alt=2 ^user=u", "submit a alt=2:^x",
		`submit a alt=2:^"5"`,
		"submit a alt=2:^:5", "submit a alt=2:^user=u", "submit a alt=2:5^:5", "submit a alt=2:5 ^6", "submit a alt=2:5^-6",
		"submit a user=u account=x alt=2 ^5", "submit a range=^x", "submit a range=^2s", "submit a range=^-4",
		`submit a range=^"2"`,
		"submit a range=2 ^4", "submit a range=2^:4", "submit a range=2^=4", "submit a range=2^,4", "submit a range=2 ^user=u",
		"submit a range=2-^x", "submit a range=2-^4s", `submit a range=2-^"4"`, "submit a range=2-^-4", "submit a range=2-4^-5",
		"submit a range=2-4 ^5", "submit a range=2-4^:5", "submit a range=2-^user=u", "submit a nodes=2^:5", "submit a nodes=2^-5",
		"submit a nodes=2^,3", "submit a user=u^,v", "submit a time=5^:5", "submit a prio=1^-5", "submit a user=^-u",
		// More signs and numbers than there are places for them.
		"submit a user=^=u", "submit a user=u ^=", "submit a user=u ^v", "submit a user=u ^7", `submit a user=u ^"v"`,
		"alter 7 prio=1 ^2", "alter 7 ^=3", "resize 7 nodes=4 ^4", "reserve from=5 ^6",
		"submit a user=u account=x nodes=2 time=5 ^x",
		"submit a user=u account=x nodes=2 time=5 ^from=1", "submit a user=u account=x nodes=2 time=5 ^7",
		"submit a user=u account=x nodes=2 time=5 any=1 good=^1",
		// Places are of runes, whatever is ahead of the fault.
		"submit é user=^7", "submit 中文 user=é account=^9", `submit "é中\"\\" user=é account=中 any=1 ^foo=1`, "^é 7",
		"  submit \t é ^=", "submit \U00010000\U00010000 user=\U00010000 ^user=v",
		"submit é alt=2 ^5", "submit a user=é range=2-^0",
	} {
		faulty(t, marked)
	}
}

// TestMissing: P8.3, of lines whose tokens are missing at their end.
func TestMissing(t *testing.T) {
	for _, line := range []string{
		"", " ", "\t \t", "submit", "submit ", "  submit \t", "cancel", "cancel   ", "hold", "release", "alter", "resize", "drain",
		"resume", "fail", "unreserve", "reserve", "reserve ",
		// Of submit: user, account, and a shape.
		"submit a", "submit é", `submit "é \" b"`, "submit a user=u", "submit a account=x", "submit a user=u account=x",
		"submit a nodes=1 time=5", "submit a user=u nodes=1 time=5", "submit a account=x nodes=1 time=5 ",
		"submit a user=u account=x nodes=1", "submit a user=u account=x time=5", "submit a user=u account=x range=1-2",
		"submit a user=u account=x nodes=1 range=1-2", "submit a user=u account=x range=4-2",
		"submit a user=u account=x prio=1 any=1",
		"submit a alt=2:5", "submit a user=u alt=2:5", "submit a account=x alt=2:5", "submit a user=u alt=2:5 nodes=1",
		"submit a account=x alt=2:5 range=1-2 time=5", "submit a user=u time=5 nodes=1 range=1-2",
		"submit a alt=2:5 alt=2:5 user=u",
		"submit a user=é account=中 any=1", "submit a user=u range=4-2 time=5", "submit a prio=0", "submit a any=1 good=2 bad=3 any=4",
		// Of the others.
		"alter 5", "alter 5 ", "resize 5", "resize 99999  ", "reserve from=5 time=5", "reserve from=5 nodes=5",
		"reserve nodes=5 time=5", "reserve from=5", "reserve nodes=5", "reserve time=5", "reserve from=0",
		// Within a field.
		"submit a user", "submit a user=", "submit a user= ", "submit a user=u account", "submit a user=u account=",
		"submit a prio", "submit a prio=", "submit a any", "submit a any=", "submit a any=1 good=",
		"submit a any=1 any=2 any=3 any",
		"submit a nodes", "submit a nodes=", "submit a alt", "submit a alt=", "submit a alt=2", "submit a alt=2:",
		"submit a alt=2 : ", "submit a range", "submit a range=", "submit a range=2", "submit a range=2-", "submit a range=2 - ",
		"submit a time", "submit a time=",
		"submit a user=u account=x alt=2:5 alt", "submit a user=u account=x alt=2:5 nodes=",
		"submit a user=u account=x nodes=2 time=5 prio", "submit a user=u account=x nodes=2 time=5 prio=",
		"submit a user=u account=x nodes=2 time=5 range=1-",
		"alter 5 prio", "alter 5 prio=", "alter 5 prio=1 time", "alter 5 prio=1 time=", "resize 5 nodes", "resize 5 nodes=",
		"reserve from", "reserve from=", "reserve from=5 nodes=", "reserve from=5 nodes=1 time", "reserve from=5 nodes=1 time= ",
	} {
		wrong(t, line, utf8.RuneCountInString(line), api.ErrSyntax)
	}
}

// TestMayNotTogether: P8.3, of lines whose tokens are all read, and that are no command's.
func TestMayNotTogether(t *testing.T) {
	for _, fields := range []string{
		"alt=2:5 nodes=1", "nodes=1 alt=2:5", "alt=2:5 nodes=2", "alt=2:5 time=5", "time=5 alt=2:5", "alt=2:5 range=1-2",
		"range=1-2 alt=2:5", "alt=2:5 nodes=1 time=5", "alt=2:5 range=1-2 time=5", "alt=2:5 nodes=1 range=1-2",
		"alt=2:5 nodes=2 range=1-2 time=5",
		"nodes=1 range=1-2 time=5", "range=1-2 nodes=1 time=5", "time=5 range=1-1 nodes=1", "range=4-2 time=5",
		"time=5 range=48-1", "range=2-1 time=5", "alt=2:5 alt=2:5", "alt=2:5 alt=3:5 alt=2:6",
		"alt=1:1 alt=2:1 alt=3:1 alt=4:1 alt=5:1 alt=1:2",
		"alt=2:5 alt=2:6 any=1", "alt=2:5 time=5 prio=3", "nodes=4 range=4-2 time=5",
	} {
		wrong(t, "submit a user=u account=x "+fields, 0, api.ErrSyntax)
		wrong(t, "  submit é "+fields+" account=é user=u ", 0, api.ErrSyntax)
		wrong(t, fields, 0, api.ErrSyntax)
	}
}

// TestNoTokens: P8.3, of lines that are no row of tokens: the error and the place are lex'.
func TestNoTokens(t *testing.T) {
	for _, x := range []struct {
		line string
		at   int
		e    api.Errno
	}{
		{"submit a user=u account=x alt=2;5", 31, api.ErrToken}, {"status !", 7, api.ErrToken}, {"foo !", 4, api.ErrToken},
		{"cancel 007", 7, api.ErrToken}, {"cancel 0123456789", 7, api.ErrToken}, {"cancel 1234567890", 7, api.ErrToken},
		{"status \x00", 7, api.ErrRune}, {"foo foo foo\n", 11, api.ErrRune}, {"é é \xff", 4, api.ErrRune},
		{`submit "a`, 7, api.ErrToken}, {`submit "a\n"`, 7, api.ErrToken}, {"submit \"a\nb\"", 9, api.ErrRune},
		{"submit \"é\u00a0\"", 9, api.ErrRune},
		{"drain 48 ;", 9, api.ErrToken}, {"submit a nodes=_", 15, api.ErrToken}, {"reserve from=1.5", 14, api.ErrToken},
		{"alter 7 prio=+1", 13, api.ErrToken}, {"submit (a)", 7, api.ErrToken}, {"\x00", 0, api.ErrRune}, {"_", 0, api.ErrToken},
	} {
		wrong(t, x.line, x.at, x.e)
		if l, n, e := lex.Tokens(x.line); len(l) != 0 || n != x.at || e != x.e {
			t.Errorf("lex.Tokens(%q) = %v, %d, %d", x.line, l, n, int(e))
		}
	}
}

// orders gives all orders of some texts.
func orders(l []string, yield func([]string)) {
	var from func(i int)
	from = func(i int) {
		if i == len(l) {
			yield(l)
		}
		for j := i; j < len(l); j++ {
			l[i], l[j] = l[j], l[i]
			from(i + 1)
			l[i], l[j] = l[j], l[i]
		}
	}
	from(0)
}

// TestAnyOrder: P8.3, of the fields of a command in each order.
func TestAnyOrder(t *testing.T) {
	for _, c := range []api.Cmd{
		submit("a", rigid(2, 90)), behind(ofPrio(submit("a", rigid(2, 90)), 7), 3, 5),
		behind(submit("b", malleable(2, 9, 5)), 1, 1, 2, 2), submit("A", moldable(3, 4, 2, 6, 5, 1)),
		behind(submit("a", moldable(3, 4, 2, 6)), 3, 9, 1, 8), timed(ofPrio(onJob(5, 9), 0), 77), reserve(5, 6, 7), resize(3, 4),
	} {
		head := strings.Join(beginning(c), " ")
		orders(fieldTexts(c), func(l []string) {
			want := c
			want.After = nil
			if c.Shape.Kind == 2 {
				want.Shape.Alts = nil
			}
			for _, f := range l {
				word, value, _ := strings.Cut(f, "=")
				for _, d := range c.After {
					if word == deps[d.How] && value == strconv.Itoa(d.Job) {
						want.After = append(want.After, d)
					}
				}
				for _, a := range c.Shape.Alts {
					if word == "alt" && strings.HasPrefix(value, strconv.Itoa(a.Nodes)+":") {
						want.Shape.Alts = append(want.Shape.Alts, a)
					}
				}
			}
			read(t, head+" "+strings.Join(l, " "), want)
		})
	}
}

// The rows of tokens that are lines' beginnings and fields, each token with a
// blank behind it, and the texts of times.
var (
	headRow  = regexp.MustCompile(`^(?:(submit) (?:("[0-9a-f]*")|([^\s\d=:,"-][^\s=:,"]*))|(cancel|hold|release|alter|resize|unreserve|drain|resume|fail) (\d+)|(status)(?: (\d+))?|(reserve)) `)
	fieldRow = regexp.MustCompile(`^(?:(user|account) = ([^\s\d=:,"-][^\s=:,"]*)|(prio|any|good|bad|from|nodes) = (\d+)|(alt) = (\d+) : (\d[\da-z]*)|(range) = (\d+) - (\d+)|(time) = (\d[\da-z]*)) `)
	timeRow  = regexp.MustCompile(`^(?:(0|[1-9]\d{0,6})d)?(?:(0|[1-9]\d{0,6})h)?(?:(0|[1-9]\d{0,6})m)?(?:(0|[1-9]\d{0,6})s)?$`)
)

// rowOf writes tokens as a row.
func rowOf(l []api.Token) string {
	var b strings.Builder
	for _, t := range l {
		switch t.Kind {
		case api.TokNum:
			b.WriteString(strconv.Itoa(t.Num))
		case api.TokText:
			b.WriteString(`"` + hex.EncodeToString([]byte(t.Text)) + `"`)
		default:
			b.WriteString(t.Text)
		}
		b.WriteString(" ")
	}
	return b.String()
}

// ticksIn tells how many ticks a number or a time is, and 0 if it is none.
func ticksIn(s string) int {
	if n, err := strconv.Atoi(s); err == nil {
		return n
	}
	m := timeRow.FindStringSubmatch(s)
	if m == nil {
		return 0
	}
	sum := 0
	for i, ticks := range []int{86400, 3600, 60, 1} {
		n, _ := strconv.Atoi(m[i+1])
		sum += n * ticks
	}
	return sum
}

// row is a row of tokens, cut: its command's word, the Name or number behind
// it, and its fields, each the word and what is behind its =.
type row struct {
	verb, name string
	number     int
	fields     [][]string
}

// among tells whether a text is a number from low to high.
func among(s string, low, high int) bool {
	n, err := strconv.Atoi(s)
	return err == nil && n >= low && n <= high
}

// headMay cuts off what a row begins with.
func headMay(s string) (row, string, bool) {
	m := headRow.FindStringSubmatch(s)
	if m == nil {
		return row{}, "", false
	}
	r := row{verb: m[1] + m[4] + m[6] + m[8], name: m[3]}
	if m[2] != "" {
		b, _ := hex.DecodeString(strings.Trim(m[2], `"`))
		r.name = string(b)
	}
	r.number, _ = strconv.Atoi(m[5] + m[7])
	may := true
	switch {
	case r.verb == "submit":
		may = nameMay(r.name)
	case r.verb == "drain" || r.verb == "resume" || r.verb == "fail":
		may = among(m[5], 0, 47)
	case m[5]+m[7] != "":
		may = among(m[5]+m[7], 1, 99999)
	}
	return r, s[len(m[0]):], may
}

// fieldMay cuts off a row's next field.
func fieldMay(s string) ([]string, string, bool) {
	m := fieldRow.FindStringSubmatch(s)
	if m == nil {
		return nil, "", false
	}
	f := slices.DeleteFunc(slices.Clone(m[1:]), func(s string) bool { return s == "" })
	may := false
	switch f[0] {
	case "user", "account":
		may = nameMay(f[1])
	case "prio":
		may = among(f[1], 0, 100)
	case "any", "good", "bad":
		may = among(f[1], 1, 99999)
	case "from":
		may = among(f[1], 0, 1000000)
	case "nodes":
		may = among(f[1], 1, 48)
	case "alt":
		may = among(f[1], 1, 48) && ticksIn(f[2]) > 0 && ticksIn(f[2]) < 100001
	case "range":
		may = among(f[1], 1, 48) && among(f[2], 1, 48)
	case "time":
		may = ticksIn(f[1]) > 0 && ticksIn(f[1]) < 100001
	}
	return f, s[len(m[0]):], may
}

// fieldsOfVerb are the fields that commands have.
var fieldsOfVerb = map[string]string{
	"submit": " user account prio any good bad nodes alt range time ", "alter": " prio time ", "resize": " nodes ",
	"reserve": " from nodes time ",
}

// rowMay cuts a row of tokens, if each of them may stand where it does, and no field is begun only.
func rowMay(s string) (row, bool) {
	r, s, may := headMay(s)
	if !may {
		return row{}, false
	}
	times, jobs, waits := map[string]int{}, map[string]int{}, 0
	for s != "" {
		f, rest, may := fieldMay(s)
		if !may || !strings.Contains(fieldsOfVerb[r.verb], " "+f[0]+" ") {
			return row{}, false
		}
		times[f[0]]++
		switch f[0] {
		case "any", "good", "bad":
			jobs[f[1]]++
			waits++
			may = jobs[f[1]] == 1 && waits <= 4
		case "alt":
			may = times["alt"] <= 6
		default:
			may = times[f[0]] == 1
		}
		if !may {
			return row{}, false
		}
		r.fields = append(r.fields, f)
		s = rest
	}
	return r, true
}

// ends are what a row that has begun may go on with, up to the end of a field.
var ends = []string{
	"", "= u ", "= 1 ", "= 90001 ", "= 90002 ", "= 90003 ", "= 90004 ", "= 1 : 1 ", "= 1 - 1 ", "u ", "1 ", "90001 ", "90002 ",
	"90003 ", "90004 ", "1 : 1 ", "1 - 1 ", ": 1 ", "- 1 ", "status ",
}

// goesOn tells whether there is a row that begins with these tokens.
func goesOn(l []api.Token) bool {
	s := rowOf(l)
	return slices.ContainsFunc(ends, func(end string) bool {
		_, may := rowMay(s + end)
		return may
	})
}

// lacking tells whether tokens are missing behind a row.
func lacking(r row) bool {
	stand := " "
	for _, f := range r.fields {
		stand += f[0] + " "
	}
	no := func(word string) bool { return !strings.Contains(stand, " "+word+" ") }
	switch r.verb {
	case "submit":
		return no("user") || no("account") || no("alt") && no("time") || no("alt") && no("nodes") && no("range")
	case "alter":
		return no("prio") && no("time")
	case "resize":
		return no("nodes")
	case "reserve":
		return no("from") || no("nodes") || no("time")
	}
	return false
}

// cmdOf tells the command of a row whose tokens are not missing, and whether there is one.
func cmdOf(r row) (api.Cmd, bool) {
	c := api.Cmd{Kind: slices.Index(verbs, r.verb), Name: r.name}
	if c.Kind > 6 && c.Kind < 10 {
		c.Node = r.number
	} else {
		c.Job = r.number
	}
	sizes, span, nodes, ticks := []api.Alt{}, []int{}, 0, 0
	for _, f := range r.fields {
		n, _ := strconv.Atoi(f[1])
		switch f[0] {
		case "user":
			c.User = f[1]
		case "account":
			c.Account = f[1]
		case "prio":
			c.Prio, c.HasPrio = n, true
		case "from":
			c.From = n
		case "nodes":
			nodes = n
		case "alt":
			sizes = append(sizes, api.Alt{Nodes: n, Wall: ticksIn(f[2])})
		case "range":
			most, _ := strconv.Atoi(f[2])
			span = []int{n, most}
		case "time":
			ticks = ticksIn(f[1])
		default:
			c.After = append(c.After, api.Dep{How: slices.Index(deps, f[0]), Job: n})
		}
	}
	if c.Kind != 1 {
		c.Nodes, c.Time, c.HasTime = nodes, ticks, ticks > 0
		return c, cmdMay(c)
	}
	switch {
	case len(sizes) > 0:
		c.Shape = api.Shape{Kind: 2, Alts: sizes}
		return c, nodes == 0 && ticks == 0 && len(span) == 0 && cmdMay(c)
	case len(span) > 0:
		c.Shape = malleable(span[0], span[1], ticks)
		return c, nodes == 0 && cmdMay(c)
	}
	c.Shape = rigid(nodes, ticks)
	return c, cmdMay(c)
}

// parsed reads a line by the chapter's words: it looks for the least row of
// its tokens that no line begins with.
func parsed(line string) (api.Cmd, int, api.Errno) {
	l, n, e := lex.Tokens(line)
	if e != api.OK {
		return api.Cmd{}, n, e
	}
	if k := sort.Search(len(l), func(i int) bool { return !goesOn(l[:i+1]) }); k < len(l) {
		return api.Cmd{}, l[k].At, api.ErrSyntax
	}
	r, whole := rowMay(rowOf(l))
	if !whole || lacking(r) {
		return api.Cmd{}, n, api.ErrSyntax
	}
	c, may := cmdOf(r)
	if !may {
		return api.Cmd{}, 0, api.ErrSyntax
	}
	return c, n, api.OK
}

// agrees asks Parse of a line, by the chapter's words, and tells whether it is a command's.
func agrees(t *testing.T, line string) bool {
	t.Helper()
	want, at, e := parsed(line)
	if e != api.OK {
		wrong(t, line, at, e)
		return false
	}
	read(t, line, want)
	again(t, line)
	return true
}

// again asks P8.5 and P8.6 of a line that is read.
func again(t *testing.T, line string) {
	t.Helper()
	c, _, _ := Parse(line)
	if e := Check(c); e != api.OK {
		t.Errorf("Parse(%q) = %v, which may not be: %d", line, c, int(e))
	}
	s, e := Show(c)
	d, n, f := Parse(s)
	if e != api.OK || f != api.OK || n != utf8.RuneCountInString(s) || !sameCmd(c, d) || !Same(c, d) {
		t.Errorf("%q is %v, whose line %q (%d) is %v, %d, %d", line, c, s, int(e), d, n, int(f))
	}
	if u, _ := Show(d); u != s {
		t.Errorf("%q is shown as %q", s, u)
	}
}

// everyShort gives all rows of up to n of some tokens behind a beginning; those
// that asked tells to have a fault by one token more.
func everyShort(n int, ahead string, of []string, asked func(string) bool) {
	if !asked(ahead) {
		n = min(n, 1)
	}
	if n <= 0 {
		return
	}
	for _, s := range of {
		everyShort(n-1, ahead+" "+s, of, asked)
	}
}

// TestAllShort: P8.3, of all short rows of some tokens.
func TestAllShort(t *testing.T) {
	head := append([]string{"0", "1", "47", "48", "99999", "100000", "5s", `"a"`, `""`, "x", "=", "-", "prio", "nodes", "time", "from", "any"}, verbs[1:]...)
	for _, x := range []struct {
		n     int
		ahead string
		of    []string
	}{
		{3, "", head},
		{4, "alter 5", []string{"prio", "time", "nodes", "=", "0", "1", "101", "5s", "0s", "x"}},
		{3, "alter 5 time=5s", []string{"prio", "time", "=", "0", "101", "x"}},
		{5, "resize 5", []string{"nodes", "=", "1", "49"}},
		{4, "reserve from=0 time=5", []string{"nodes", "from", "time", "=", "0", "1", "49", "5s", "x"}},
		{4, "reserve nodes=1 from=5", []string{"nodes", "from", "time", "=", "0", "1", "49", "5s", "x"}},
		{6, "submit a user=u account=x", []string{"alt", "range", "nodes", "time", "user", "=", ":", "-", "1", "2", "49", "5s"}},
		{3, "submit a user=u account=x time=5", []string{"alt", "range", "nodes", "time", "any", "from", "=", ":", "-", "0", "1", "5s", "x"}},
		{5, "submit a user=u account=x time=5 range=3", []string{"nodes", "=", ":", "-", "1", "48"}},
		{5, "submit a user=u account=x alt=3", []string{"alt", "=", ":", "1", "3"}},
		{4, "submit a user=u account=x alt=3:1 alt=2:2 alt=1:3 alt=4:4 alt=5:5", []string{"alt", "=", ":", "6", "0", "nodes"}},
		{3, "submit a any=1 user=u account=x nodes=1 time=5 good=2 bad=3", []string{"any", "good", "bad", "=", "0", "1", "2", "3", "4", "100000", "x"}},
		{3, "submit a any=1 user=u account=x nodes=1 time=5 good=2 bad=3 any=9", []string{"any", "good", "bad", "=", "4", "prio", "0"}},
		{6, "submit a nodes=1 time=5", []string{"user", "account", "=", "u", `"u"`, "aaaaaaaaaaaaaaaa", "aaaaaaaaaaaaaaaaa", "7"}},
		{4, "submit a user=u nodes=1 time=5", []string{"user", "account", "=", "u", `"u"`, "ééééééééééééééé", "ééééééééééééééééé", "7"}},
		{3, "submit", []string{"submit", "user", "=", "u", `"user"`, "é", "7", "5s", `""`, `"aaaaaaaaaaaaaaaa"`, `"aaaaaaaaaaaaaaaaa"`, "aaaaaaaaaaaaaaaaa"}},
	} {
		lines, may := 0, 0
		everyShort(x.n, x.ahead, x.of, func(line string) bool {
			lines++
			if agrees(t, line) {
				may++
			}
			_, at, e := parsed(line)
			return e == api.OK || at == 0 || at == utf8.RuneCountInString(line)
		})
		// Behind submit alone, so few are none.
		if may == 0 && x.ahead != "submit" {
			t.Errorf("none of the %d lines behind %q is a command's", lines, x.ahead)
		}
	}
}

// anyOf is one of some numbers.
func anyOf(r *rand.Rand, l ...int) int { return l[r.Intn(len(l))] }

// anyName is any name.
func anyName(r *rand.Rand, of []rune) string {
	l := make([]rune, anyOf(r, 1, 1, 2, 3, 8, 16))
	for i := range l {
		l[i] = of[r.Intn(len(of))]
	}
	return string(l)
}

// anyWall is any length.
func anyWall(r *rand.Rand) int {
	return anyOf(r, 1, 5, 60, 90, 3600, 86400, 99999, 100000, 1+r.Intn(100000), 1+r.Intn(100000))
}

// anyShape is any shape that may be.
func anyShape(r *rand.Rand) api.Shape {
	switch r.Intn(3) {
	case 0:
		return rigid(1+r.Intn(48), anyWall(r))
	case 1:
		s := moldable()
		for _, n := range r.Perm(48)[:anyOf(r, 1, 2, 3, 6)] {
			s.Alts = append(s.Alts, api.Alt{Nodes: n + 1, Wall: anyWall(r)})
		}
		return s
	}
	least := 1 + r.Intn(48)
	return malleable(least, least+r.Intn(49-least), anyWall(r))
}

// anyCmd is any command that may be.
func anyCmd(r *rand.Rand) api.Cmd {
	c := api.Cmd{Kind: anyOf(r, 1, 1, 1, 1, 1, 1, 2, 3, 4, 5, 6, 7, 8, 9, 10, 11, 12)}
	switch c.Kind {
	case 1:
		c.Name, c.User, c.Account = anyName(r, []rune(`ab2_-Z "\é中=`)), "é"+anyName(r, []rune("ab2_-é中"))[1:], "a"
		if !nameMay(c.User) || !wordMay(c.User) {
			c.User = anyName(r, []rune("abé中\U00010000"))
		}
		c.Shape = anyShape(r)
		for range anyOf(r, 0, 0, 1, 2, 3, 4) {
			if d := (api.Dep{How: 1 + r.Intn(3), Job: 1 + r.Intn(99999)}); !slices.ContainsFunc(c.After, func(o api.Dep) bool { return o.Job == d.Job }) {
				c.After = append(c.After, d)
			}
		}
	case 6, 10:
		c.Nodes = 1 + r.Intn(48)
	case 7, 8, 9:
		c.Node = r.Intn(48)
	}
	if c.Kind > 1 && c.Kind < 7 || c.Kind == 11 || c.Kind == 12 && r.Intn(2) == 0 {
		c.Job = anyOf(r, 1, 99999, 1+r.Intn(99999))
	}
	if c.Kind == 10 {
		c = timed(c, anyWall(r))
		c.From = anyOf(r, 0, 1000000, r.Intn(1000001))
	}
	if c.Kind == 5 && r.Intn(2) == 0 {
		c = timed(c, anyWall(r))
	}
	if (c.Kind == 1 || c.Kind == 5) && r.Intn(2) == 0 || c.Kind == 5 && !c.HasTime {
		c = ofPrio(c, anyOf(r, 0, 100, r.Intn(101)))
	}
	return c
}

// someCmds are commands that may be, any among them.
func someCmds(r *rand.Rand, n int) []api.Cmd {
	l := mayCmds()
	for len(l) < n {
		l = append(l, anyCmd(r))
	}
	return l
}

// TestBack: P8.5 and P8.6, of commands that may be.
func TestBack(t *testing.T) {
	kinds := map[int]int{}
	for _, c := range someCmds(rand.New(rand.NewSource(85)), 4000) {
		kinds[c.Kind]++
		told(t, c)
		s, e := Show(c)
		if e != api.OK {
			t.Fatalf("Show(%v): %d", c, int(e))
		}
		read(t, s, c)
		again(t, s)
	}
	for kind := 1; kind <= 12; kind++ {
		if kinds[kind] < 50 {
			t.Errorf("only %d commands of kind %d", kinds[kind], kind)
		}
	}
}

// changed is a row of tokens, in which some are left out, doubled, others' or
// at another place.
func changed(r *rand.Rand, l []string) []string {
	others := []string{
		"user", "account", "prio", "any", "good", "bad", "from", "nodes", "alt", "range", "time", "=", "=", ":", "-", ",", "0",
		"1", "2", "48", "49", "100", "101", "99999", "100000", "100001", "1000001", "5s", "0s", "2d", "1m30s", "x", "é",
		"aaaaaaaaaaaaaaaaa",
		`"a b"`, `""`, "submit", "status", "alter", ";", "user = u", "alt = 2 : 5", "range = 1 - 2", "any = 7", "nodes = 3",
		"time = 9", "prio = 5",
	}
	l = slices.Clone(l)
	for range anyOf(r, 0, 1, 1, 1, 2, 3) {
		i, s := r.Intn(len(l)+1), others[r.Intn(len(others))]
		switch {
		case r.Intn(3) == 0 || i == len(l):
			l = slices.Insert(l, i, s)
		case r.Intn(3) == 0:
			l = slices.Delete(l, i, i+1)
		case r.Intn(3) == 0:
			j := r.Intn(len(l))
			l[i], l[j] = l[j], l[i]
		case r.Intn(3) == 0:
			l = l[:i]
		default:
			l[i] = s
		}
	}
	return l
}

// TestAnyLines: P8.3, of commands' lines that are changed, by the chapter's words.
func TestAnyLines(t *testing.T) {
	r := rand.New(rand.NewSource(83))
	may, at0, atEnd := 0, 0, 0
	for _, c := range someCmds(r, 4000) {
		fields := fieldTexts(c)
		r.Shuffle(len(fields), func(i, j int) { fields[i], fields[j] = fields[j], fields[i] })
		// Apart, so that each token may be another one.
		s := strings.NewReplacer("=", " = ", ":", " : ").Replace(strings.Join(fields, " "))
		if c.Shape.Kind == 3 {
			s = strings.Replace(s, strconv.Itoa(c.Shape.Min)+"-", strconv.Itoa(c.Shape.Min)+" - ", 1)
		}
		l := changed(r, append(beginning(c), strings.Fields(s)...))
		text := ""
		for _, s := range l {
			text += s + []string{" ", " ", "\t", "  "}[r.Intn(4)]
		}
		if agrees(t, text) {
			may++
		}
		if _, n, e := parsed(text); e == api.ErrSyntax && n == 0 {
			at0++
		} else if e == api.ErrSyntax && n == utf8.RuneCountInString(text) {
			atEnd++
		}
	}
	if may < 500 || at0 < 100 || atEnd < 100 {
		t.Errorf("only %d that may be, %d at 0, %d at the end", may, at0, atEnd)
	}
}

// differing are commands that differ from c in one thing each.
func differing(c api.Cmd) []api.Cmd {
	var l []api.Cmd
	for _, set := range []func(*api.Cmd){
		func(c *api.Cmd) { c.Kind++ }, func(c *api.Cmd) { c.Job++ }, func(c *api.Cmd) { c.Job = -c.Job - 1 },
		func(c *api.Cmd) { c.Name += "a" }, func(c *api.Cmd) { c.User += "a" }, func(c *api.Cmd) { c.Account += "\x00" },
		func(c *api.Cmd) { c.Shape.Kind++ }, func(c *api.Cmd) { c.Shape.Min++ }, func(c *api.Cmd) { c.Shape.Max-- },
		func(c *api.Cmd) { c.Shape.Wall++ }, func(c *api.Cmd) { c.Prio++ }, func(c *api.Cmd) { c.HasPrio = !c.HasPrio },
		func(c *api.Cmd) { c.Time-- }, func(c *api.Cmd) { c.HasTime = !c.HasTime }, func(c *api.Cmd) { c.Node++ },
		func(c *api.Cmd) { c.Nodes++ }, func(c *api.Cmd) { c.From-- },
		func(c *api.Cmd) { c.After = append(slices.Clone(c.After), api.Dep{}) },
		func(c *api.Cmd) { c.Shape.Alts = append(slices.Clone(c.Shape.Alts), api.Alt{}) },
	} {
		d := c
		set(&d)
		l = append(l, d)
	}
	for i := range c.After {
		for _, by := range []api.Dep{{How: 1}, {Job: -1}} {
			d := c
			d.After = slices.Clone(c.After)
			d.After[i].How += by.How
			d.After[i].Job += by.Job
			l = append(l, d)
		}
		d := c
		d.After = slices.Delete(slices.Clone(c.After), i, i+1)
		l = append(l, d)
	}
	for i := range c.Shape.Alts {
		for _, by := range []api.Alt{{Nodes: 1}, {Wall: -1}} {
			d := c
			d.Shape.Alts = slices.Clone(c.Shape.Alts)
			d.Shape.Alts[i].Nodes += by.Nodes
			d.Shape.Alts[i].Wall += by.Wall
			l = append(l, d)
		}
	}
	return l
}

// twin is c, in lists of its own.
func twin(c api.Cmd) api.Cmd {
	c.After, c.Shape.Alts = slices.Clone(c.After), slices.Clone(c.Shape.Alts)
	return c
}

// TestSame: P8.4, of commands that are the same, and that differ in one thing.
func TestSame(t *testing.T) {
	l := append(mayCmds(), api.Cmd{}, api.Cmd{Kind: -1, Job: -1, Name: "\xff", User: "A", Account: "", Shape: api.Shape{Kind: 9, Alts: alts(0, 0, -1, -1), Min: 3, Max: 2, Wall: 1},
		Prio: -1, Time: math.MaxInt, After: after(0, 0, 9, 9, 9, 9), Node: math.MinInt, Nodes: -1, From: 7})
	for _, c := range l {
		if !Same(c, twin(c)) || !Same(twin(c), c) {
			t.Errorf("%v is not the same as its twin", c)
		}
		for _, d := range differing(c) {
			if Same(c, d) || Same(d, c) {
				t.Errorf("%v and %v are the same", c, d)
			}
			if !Same(d, twin(d)) {
				t.Errorf("%v is not the same as its twin", d)
			}
		}
		for _, d := range l {
			if got := Same(c, d); got != sameCmd(c, d) {
				t.Errorf("Same(%v, %v) = %v", c, d, got)
			}
		}
	}
	a := submit("a", moldable(2, 5, 4, 3))
	// The order counts, and which text and which number is whose.
	for _, x := range [][2]api.Cmd{
		{behind(a, 1, 5, 2, 6), behind(a, 2, 6, 1, 5)}, {behind(a, 1, 5, 2, 6), behind(a, 2, 5, 1, 6)}, {a, submit("a", moldable(4, 3, 2, 5))},
		{{Name: "a", User: "b"}, {Name: "b", User: "a"}}, {{User: "a"}, {Account: "a"}}, {{Node: 1}, {Nodes: 1}},
		{{From: 1}, {Time: 1}}, {{Job: 1}, {Node: 1}}, {{HasPrio: true}, {HasTime: true}}, {{Prio: 1}, {Time: 1}},
	} {
		if Same(x[0], x[1]) || Same(x[1], x[0]) {
			t.Errorf("%v and %v are the same", x[0], x[1])
		}
	}
	// An empty list is as good as nil, with room or without.
	for _, c := range []api.Cmd{{}, onJob(2, 5), submit("a", malleable(1, 2, 3))} {
		for _, as := range [][]api.Dep{nil, {}, after(1, 1)[:0]} {
			for _, bs := range [][]api.Alt{nil, {}, alts(1, 1)[:0]} {
				d := c
				d.After, d.Shape.Alts = as, bs
				if !Same(c, d) || !Same(d, c) {
					t.Errorf("%v: empty lists are not the same as nil", c)
				}
			}
		}
	}
}

// sharesText tells whether a text shares memory with another.
func sharesText(s, other string) bool {
	// One byte may stand where all such do.
	if len(s) < 2 || len(other) < 2 {
		return false
	}
	at, from := uintptr(unsafe.Pointer(unsafe.StringData(s))), uintptr(unsafe.Pointer(unsafe.StringData(other)))
	return at < from+uintptr(len(other)) && from < at+uintptr(len(s))
}

// shares tells whether two lists have memory in common, their spare room too.
func shares[T any](a, b []T) bool {
	if cap(a) == 0 || cap(b) == 0 {
		return false
	}
	var one T
	at, from := uintptr(unsafe.Pointer(unsafe.SliceData(a))), uintptr(unsafe.Pointer(unsafe.SliceData(b)))
	return at < from+uintptr(cap(b))*unsafe.Sizeof(one) && from < at+uintptr(cap(a))*unsafe.Sizeof(one)
}

// TestNewMemory: what is handed out is new.
func TestNewMemory(t *testing.T) {
	for _, c := range someCmds(rand.New(rand.NewSource(4)), 600) {
		s, _ := Show(c)
		u, _ := Show(c)
		// With room behind what it is made of.
		line := strings.Clone(s + " ")[:len(s)]
		a, _, _ := Parse(line)
		b, _, _ := Parse(line)
		if sharesText(s, c.Name) || sharesText(s, c.User) || sharesText(s, c.Account) || sharesText(s, u) {
			t.Errorf("Show(%v) shares its memory", c)
		}
		for _, text := range []string{a.Name, a.User, a.Account} {
			if sharesText(text, line) || sharesText(text, b.Name) || sharesText(text, b.User) || sharesText(text, b.Account) {
				t.Errorf("%q of Parse(%q) shares its memory", text, line)
			}
		}
		if shares(a.After, b.After) || shares(a.Shape.Alts, b.Shape.Alts) {
			t.Errorf("two of Parse(%q) share their lists", line)
		}
	}
}

// TestNothingIsChanged: what is handed in stays as it is, its spare room too.
func TestNothingIsChanged(t *testing.T) {
	for _, c := range append(someCmds(rand.New(rand.NewSource(5)), 600), api.Cmd{Kind: 1, After: after(9, 9)}, submit("a", moldable(1, 1, 1, 1))) {
		was := twin(c)
		deps := append(slices.Clone(c.After), after(11, 12, 13, 14, 15, 16, 17, 18, 19, 20)...)
		sizes := append(slices.Clone(c.Shape.Alts), alts(11, 12, 13, 14, 15, 16, 17, 18, 19, 20)...)
		d, e := slices.Clone(deps), slices.Clone(sizes)
		c.After, c.Shape.Alts = deps[:len(c.After)], sizes[:len(c.Shape.Alts)]
		Check(c)
		Same(c, c)
		Show(c)
		if !slices.Equal(deps, d) || !slices.Equal(sizes, e) || !sameCmd(c, was) {
			t.Errorf("%v became %v", was, c)
		}
	}
}

// TestNothingIsKept: a call hangs on its arguments alone.
func TestNothingIsKept(t *testing.T) {
	lines := []string{
		"submit a user=u account=x any=1 alt=2:5 alt=3:6", "submit a user=u account=x any=1 alt=2:5 nodes=1",
		"cancel 0", "submit a user=u", `status "`, "status", "reserve time=5 from=0 nodes=1", "alter 5 prio=1", "",
	}
	for range 3 {
		for _, line := range lines {
			agrees(t, line)
		}
		for _, c := range mayCmds() {
			told(t, c)
		}
	}
	// What is done to what was handed out is not seen in what is told next.
	c, _, _ := Parse(lines[0])
	c.After[0].Job, c.Shape.Alts[0].Nodes, c.Name = 77, 48, "b"
	read(t, lines[0], behind(submit("a", moldable(2, 5, 3, 6)), 1, 1))
	// A command whose list is changed is another one.
	told(t, c)
	c.Shape.Alts[1].Nodes = 48
	told(t, c)
	c.Shape.Alts[1].Nodes, c.After[0].How = 47, 4
	told(t, c)
}
