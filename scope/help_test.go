package scope

import (
	"pantomime/api"
	"pantomime/early"
	"pantomime/read"
	"strconv"
	"strings"
	"testing"
)

// parsed is the tree of a source text.
func parsed(t *testing.T, s string) api.Node {
	t.Helper()
	n, at, e := read.Program(s)
	if e != api.OK {
		t.Fatalf("%q: not parsed: %d at %d", s, e, at)
	}
	return n
}

// valid is the tree of a source text that has no early error.
func valid(t *testing.T, s string) api.Node {
	t.Helper()
	n := parsed(t, s)
	if at, e := early.Check(n); e != api.OK {
		t.Fatalf("%q: early error %d at %d", s, e, at)
	}
	return n
}

func scopesOf(t *testing.T, n api.Node) []api.Scope {
	t.Helper()
	l, e := Of(n)
	if e != api.OK {
		t.Fatalf("Of: %d", e)
	}
	return l
}

func usesOf(t *testing.T, n api.Node) []api.Use {
	t.Helper()
	l, e := Uses(n)
	if e != api.OK {
		t.Fatalf("Uses: %d", e)
	}
	return l
}

// binding is the name of a kind of bindings.
func binding(kind int) string {
	return []string{"var", "let", "const", "func", "param", "catch", "this", "self"}[kind]
}

// told writes scopes for comparing: kind, scope around it / function @ offset, and the bindings, each with its kind and . local or ^ slot of its context.
func told(l []api.Scope) string {
	var b strings.Builder
	for _, s := range l {
		kind := []string{"program", "func", "block", "loop", "catch", "self"}[s.Kind]
		b.WriteString(kind + " " + strconv.Itoa(s.Up) + "/" + strconv.Itoa(s.Func) + "@" + strconv.Itoa(s.At))
		for _, n := range s.Names {
			where := "."
			if n.Held {
				where = "^"
			}
			b.WriteString(" " + n.Name + ":" + binding(n.Kind) + where + strconv.Itoa(n.Slot))
		}
		b.WriteString("; ")
	}
	return strings.TrimSuffix(b.String(), "; ")
}

// toldUses writes references for comparing: name @ offset / scope, then * for a global, or the kind of the binding and . local or ^ hops . slot, and ! if it needs a check.
func toldUses(l []api.Use) string {
	var b strings.Builder
	for _, u := range l {
		b.WriteString(u.Name + "@" + strconv.Itoa(u.At) + "/" + strconv.Itoa(u.Scope) + " ")
		switch u.Where {
		case api.AtGlobal:
			b.WriteString("*")
		case api.AtHeld:
			b.WriteString(binding(u.Kind) + "^" + strconv.Itoa(u.Hops) + "." + strconv.Itoa(u.Slot))
		case api.AtLocal:
			b.WriteString(binding(u.Kind) + "." + strconv.Itoa(u.Slot))
		}
		if u.Check {
			b.WriteString("!")
		}
		b.WriteString("; ")
	}
	return strings.TrimSuffix(b.String(), "; ")
}

// chance is a row of numbers that is the same at each run of the tests.
type chance uint32

func (c *chance) below(n int) int {
	*c = *c*1664525 + 1013904223
	return int(*c>>8) % n
}

func (c *chance) one(l ...string) string { return l[c.below(len(l))] }
