package labels

import (
	"pantomime/api"
	"pantomime/read"
	"pantomime/tree"
	"strconv"
	"strings"
	"testing"
)

// parsed is the tree of a source text.
func parsed(t *testing.T, s string) api.Node {
	t.Helper()
	n, at, e := read.Program(s)
	if e != api.OK {
		t.Fatalf("%q: not parsed: %d at %d", s, e, at)
	}
	return n
}

// function is the first function in the tree of a source text.
func function(t *testing.T, s string) api.Node {
	t.Helper()
	for _, n := range tree.Walk(parsed(t, s)) {
		if n.Op == api.NFunc {
			return n
		}
	}
	t.Fatalf("%q: no function", s)
	return api.Node{}
}

// answer is all that Of answers: marks as break/again@place, then jumps as place>number; or the error and its place.
func answer(fn api.Node) string {
	marks, jumps, at, e := Of(fn)
	if e != api.OK {
		return told(marks, jumps) + "error " + strconv.Itoa(int(e)) + "@" + strconv.Itoa(at)
	}
	if at != 0 {
		return "a place without an error"
	}
	return told(marks, jumps)
}

func told(marks []Mark, jumps []Jump) string {
	var b strings.Builder
	for _, m := range marks {
		b.WriteString(strconv.Itoa(m.Break) + "/" + strconv.Itoa(m.Again) + "@" + strconv.Itoa(m.At) + " ")
	}
	for _, j := range jumps {
		b.WriteString(strconv.Itoa(j.At) + ">" + strconv.Itoa(j.To) + " ")
	}
	return b.String()
}

// chance is a row of numbers that is the same at each run of the tests.
type chance uint32

func (c *chance) below(n int) int {
	*c = *c*1664525 + 1013904223
	return int(*c>>8) % n
}

func (c *chance) one(l ...string) string { return l[c.below(len(l))] }

// label is a short name, so that some labels enclose others of the same name.
func (c *chance) label() string { return c.one("a", "b", "d", "x", "y") }

// statements grows a few statements.
func (c *chance) statements(depth int) string {
	var l []string
	for range c.below(3) {
		l = append(l, c.statement(depth))
	}
	return strings.Join(l, " ")
}

// statement grows a statement, jumps and what they can lead to above all.
func (c *chance) statement(depth int) string {
	if depth == 0 {
		return c.jump()
	}
	in := depth - 1
	switch c.below(14) {
	case 0:
		return "for (;;) " + c.statement(in)
	case 1:
		return c.one("for (var v in o) ", "for (w of o) ", "while (o) ") + c.statement(in)
	case 2:
		return "do " + c.statement(in) + " while (" + c.one("o", "() => { "+c.statements(in)+" }") + ");"
	case 3:
		return "switch (o) { case 1: " + c.statements(in) + " default: " + c.statements(in) + " }"
	case 4, 5, 6:
		return c.label() + ": " + c.statement(in)
	case 7:
		return "{ " + c.statements(in) + " }"
	case 8:
		return "if (o) " + c.statement(in) + c.one("", " else "+c.statement(in))
	case 9:
		return "try { " + c.statements(in) + " } " + c.one("catch (e) { ", "catch { ", "finally { ") + c.statements(in) + " }"
	case 10:
		return "{ function f(p = function () { " + c.statements(in) + " }) { " + c.statements(in) + " } }"
	case 11:
		return "({m() { " + c.statements(in) + " }, k: () => { " + c.statements(in) + " }});"
	}
	return c.jump()
}

func (c *chance) jump() string {
	return c.one("break;", "continue;", "break "+c.label()+";", "continue "+c.label()+";", "break "+c.label()+";", ";", "o;", "return;", "throw o;")
}

// loose grows a statement whose jumps most often lead somewhere: its labels are others than those inside, to which jumps lead seldom.
func (c *chance) loose(depth int) string {
	return "a: for (;;) b: while (o) switch (o) { case 1: d: { " + strings.NewReplacer("a:", "p:", "b:", "q:", "d:", "r:", "break x", "break a", "break y", "break b", "continue x", "continue a", "continue y", "continue b", "continue d", "continue a").Replace(c.statements(depth)) + " } }"
}
