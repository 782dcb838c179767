package cmd

import (
	"muster/api"
	"muster/hours"
)

// reader reads the tokens of a line, one after the other. A token that is not
// as asked stays: its place is that of the fault.
type reader struct {
	tokens []api.Token // those that are not read yet
	runes  int         // how many the line has
}

// place tells where the next token begins, or the line's end, if there is none.
func (r *reader) place() int {
	if len(r.tokens) == 0 {
		return r.runes
	}
	return r.tokens[0].At
}

// next takes the next token, if it is as asked.
func (r *reader) next(asked func(api.Token) bool) (api.Token, bool) {
	if len(r.tokens) == 0 || !asked(r.tokens[0]) {
		return api.Token{}, false
	}
	t := r.tokens[0]
	r.tokens = r.tokens[1:]
	return t, true
}

// word takes a word that is as asked.
func (r *reader) word(asked func(string) bool) (word, bool) {
	t, ok := r.next(func(t api.Token) bool { return t.Kind == api.TokWord && asked(t.Text) })
	return word(t.Text), ok
}

// name takes a name, that is a word or a text.
func (r *reader) name() (string, bool) {
	t, ok := r.next(func(t api.Token) bool {
		return (t.Kind == api.TokWord || t.Kind == api.TokText) && isName(t.Text)
	})
	return t.Text, ok
}

// number takes a number that is as asked.
func (r *reader) number(asked func(int) bool) (number, bool) {
	t, ok := r.next(func(t api.Token) bool { return t.Kind == api.TokNum && asked(t.Num) })
	return number(t.Num), ok
}

// sign takes that sign.
func (r *reader) sign(s string) bool {
	_, ok := r.next(func(t api.Token) bool { return t.Kind == api.TokSign && t.Text == s })
	return ok
}

// ticksOf tells how many ticks a token is, and 0 if it is no time.
func ticksOf(t api.Token) int {
	switch t.Kind {
	case api.TokNum:
		return t.Num
	case api.TokTime:
		// With an error it is 0, and so no length.
		n, _ := hours.Parse(t.Text)
		return n
	}
	return 0
}

// length takes a length of time.
func (r *reader) length() (ticks, bool) {
	t, ok := r.next(func(t api.Token) bool { return isLength(ticksOf(t)) })
	return ticks(ticksOf(t)), ok
}

// option takes an alternative.
func (r *reader) option() (option, bool) {
	nodes, ok := r.number(isSize)
	if !ok || !r.sign(":") {
		return option{}, false
	}
	wall, ok := r.length()
	return option{Nodes: int(nodes), Wall: int(wall)}, ok
}

// span takes the least and the greatest size.
func (r *reader) span() (span, bool) {
	least, ok := r.number(isSize)
	if !ok || !r.sign("-") {
		return span{}, false
	}
	most, ok := r.number(isSize)
	return span{int(least), int(most)}, ok
}

// id takes the number of a job on which no dependency stands yet.
func (r *reader) id(stand []field) (id, bool) {
	n, ok := r.number(func(n int) bool { return isId(n) && count(stand, dependsOn(n)) == 0 })
	return id(n), ok
}

// value takes what stands behind the = of a field of that name.
func (r *reader) value(name string, stand []field) (value, bool) {
	switch name {
	case "user", "account":
		return r.word(isName)
	case "prio":
		return r.number(isPrio)
	case "from":
		return r.number(isTick)
	case "nodes":
		return r.number(isSize)
	case "alt":
		return r.option()
	case "range":
		return r.span()
	case "time":
		return r.length()
	}
	return r.id(stand)
}

// field takes a field of a command of that Kind, behind those that stand.
func (r *reader) field(kind int, stand []field) (field, bool) {
	name, ok := r.word(func(s string) bool { return hasField(kind, s) && mayFollow(stand, s) })
	if !ok || !r.sign("=") {
		return field{}, false
	}
	v, ok := r.value(string(name), stand)
	return field{string(name), v}, ok
}

// target takes the Name or the number behind a command's word.
func (r *reader) target(c *api.Cmd) bool {
	if c.Kind == api.CmdReserve || c.Kind == api.CmdStatus && len(r.tokens) == 0 {
		return true
	}
	var n number
	var ok bool
	switch c.Kind {
	case api.CmdSubmit:
		c.Name, ok = r.name()
	case api.CmdDrain, api.CmdResume, api.CmdFail:
		n, ok = r.number(isNode)
		c.Node = int(n)
	default:
		n, ok = r.number(isId)
		c.Job = int(n)
	}
	return ok
}

// command takes a command, to the line's end.
func (r *reader) command() (api.Cmd, bool) {
	w, ok := r.word(func(s string) bool { return kindOf(s) != 0 })
	c := api.Cmd{Kind: kindOf(string(w))}
	if !ok || !r.target(&c) {
		return api.Cmd{}, false
	}
	var stand []field
	for len(r.tokens) > 0 {
		f, ok := r.field(c.Kind, stand)
		if !ok {
			return api.Cmd{}, false
		}
		stand = append(stand, f)
		lay(&c, f)
	}
	return gather(c), !lacks(c.Kind, stand)
}
