package cmd

import (
	"strconv"

	"muster/api"
	"muster/hours"
)

// field is a field of a line: a word, and what stands behind its =.
type field struct {
	name  string
	value value
}

// value is what stands behind a =, of any kind.
type value interface {
	// text tells it as it is written.
	text() string
}

// The kinds of values.
type (
	word   string                    // of user and account
	number int                       // of prio, from and nodes
	id     int                       // of any, good and bad
	ticks  int                       // of time
	option api.Alt                   // of alt
	span   struct{ least, most int } // of range
)

func (v word) text() string   { return string(v) }
func (v number) text() string { return strconv.Itoa(int(v)) }
func (v id) text() string     { return strconv.Itoa(int(v)) }
func (v option) text() string { return strconv.Itoa(v.Nodes) + ":" + ticks(v.Wall).text() }
func (v span) text() string   { return strconv.Itoa(v.least) + "-" + strconv.Itoa(v.most) }

func (v ticks) text() string {
	// A length is a time: there is no error.
	s, _ := hours.Show(int(v))
	return s
}

// hows are the words of the dependencies, each at its How.
var hows = [...]string{api.DepAny: "any", api.DepGood: "good", api.DepBad: "bad"}

// howOf tells the How of the dependencies whose word s is, and 0 if it is none's.
func howOf(s string) int {
	for how, w := range hows {
		if w == s {
			return how
		}
	}
	return 0
}

// hasField tells whether commands of a Kind have fields of that name.
func hasField(kind int, name string) bool {
	switch name {
	case "user", "account", "any", "good", "bad", "alt", "range":
		return kind == api.CmdSubmit
	case "prio":
		return kind == api.CmdSubmit || kind == api.CmdAlter
	case "from":
		return kind == api.CmdReserve
	case "nodes":
		return kind == api.CmdSubmit || kind == api.CmdResize || kind == api.CmdReserve
	case "time":
		return kind == api.CmdSubmit || kind == api.CmdAlter || kind == api.CmdReserve
	}
	return false
}

// isDependency tells whether a field is a dependency.
func isDependency(f field) bool {
	_, ok := f.value.(id)
	return ok
}

// dependsOn asks of fields whether they are a dependency on that job.
func dependsOn(job int) func(field) bool {
	return func(f field) bool {
		v, ok := f.value.(id)
		return ok && int(v) == job
	}
}

// named asks of fields whether they have that name.
func named(name string) func(field) bool {
	return func(f field) bool { return f.name == name }
}

// count counts the fields of which the question holds.
func count(l []field, asked func(field) bool) int {
	n := 0
	for _, f := range l {
		if asked(f) {
			n++
		}
	}
	return n
}

// mayFollow tells whether one more field of that name may stand behind others.
func mayFollow(l []field, name string) bool {
	switch {
	case name == "alt":
		return count(l, named(name)) < api.MaxAlts
	case howOf(name) != 0:
		return count(l, isDependency) < api.MaxDeps
	}
	return count(l, named(name)) == 0
}

// lacks tells whether a command of that Kind needs more than those fields.
func lacks(kind int, l []field) bool {
	no := func(name string) bool { return count(l, named(name)) == 0 }
	switch kind {
	case api.CmdSubmit:
		return no("user") || no("account") || no("alt") && (no("time") || no("nodes") && no("range"))
	case api.CmdAlter:
		return len(l) == 0
	case api.CmdResize:
		return no("nodes")
	case api.CmdReserve:
		return no("from") || no("nodes") || no("time")
	}
	return false
}

// fieldsOf tells the fields of a command that may be, in their order.
func fieldsOf(c api.Cmd) []field {
	c = spread(c)
	var l []field
	add := func(has bool, name string, v value) {
		if has {
			l = append(l, field{name, v})
		}
	}
	add(c.User != "", "user", word(c.User))
	add(c.Account != "", "account", word(c.Account))
	add(c.HasPrio, "prio", number(c.Prio))
	for _, d := range c.After {
		add(true, hows[d.How], id(d.Job))
	}
	add(c.Kind == api.CmdReserve, "from", number(c.From))
	add(c.Nodes != 0, "nodes", number(c.Nodes))
	for _, a := range c.Shape.Alts {
		add(true, "alt", option(a))
	}
	add(c.Shape.Max != 0, "range", span{c.Shape.Min, c.Shape.Max})
	add(c.HasTime, "time", ticks(c.Time))
	return l
}

// lay lays a field into a command; of a shape it is gathered from there.
func lay(c *api.Cmd, f field) {
	switch v := f.value.(type) {
	case word:
		if f.name == "user" {
			c.User = string(v)
		} else {
			c.Account = string(v)
		}
	case number:
		layNumber(c, f.name, int(v))
	case id:
		c.After = append(c.After, api.Dep{How: howOf(f.name), Job: int(v)})
	case ticks:
		c.Time, c.HasTime = int(v), true
	case option:
		c.Shape.Alts = append(c.Shape.Alts, api.Alt(v))
	case span:
		c.Shape.Min, c.Shape.Max = v.least, v.most
	}
}

// layNumber lays a number, of a field of that name.
func layNumber(c *api.Cmd, name string, n int) {
	switch name {
	case "prio":
		c.Prio, c.HasPrio = n, true
	case "from":
		c.From = n
	case "nodes":
		c.Nodes = n
	}
}

// spread tells a command with what its fields nodes and time tell as its own
// Nodes and Time, of a shape, too.
func spread(c api.Cmd) api.Cmd {
	switch c.Shape.Kind {
	case api.Rigid:
		a := c.Shape.Alts[0]
		c.Nodes, c.Time, c.HasTime = a.Nodes, a.Wall, true
		c.Shape.Alts = nil
	case api.Malleable:
		c.Time, c.HasTime = c.Shape.Wall, true
	}
	return c
}

// gather is the way back: of a submission it tells the shape that its fields
// tell. What does not go together with that shape stays, so that the whole may
// not be.
func gather(c api.Cmd) api.Cmd {
	switch {
	case c.Kind != api.CmdSubmit:
		return c
	case len(c.Shape.Alts) > 0:
		c.Shape.Kind = api.Moldable
	case c.Shape.Max != 0:
		c.Shape.Kind, c.Shape.Wall = api.Malleable, c.Time
		c.Time, c.HasTime = 0, false
	default:
		c.Shape.Kind, c.Shape.Alts = api.Rigid, []api.Alt{{Nodes: c.Nodes, Wall: c.Time}}
		c.Nodes, c.Time, c.HasTime = 0, 0, false
	}
	return c
}
