package print

import (
	"pantomime/api"
	"pantomime/read"
	"pantomime/tree"
	"reflect"
	"testing"
)

// of makes a node.
func of(op, n int, s string, kids ...api.Node) api.Node {
	return api.Node{Op: op, N: n, S: s, Kids: kids}
}

func name(s string) api.Node { return of(api.NName, 0, s) }

func text(s string) api.Node { return of(api.NText, 0, s) }

// parsed is the tree of a program.
func parsed(t *testing.T, s string) api.Node {
	t.Helper()
	n, at, e := read.Program(s)
	if e != api.OK {
		t.Fatalf("%q: not parsed: %d at %d", s, e, at)
	}
	return n
}

// turned holds the text of a parsed program against what it has to be, which ends in a line feed that is left out here.
func turned(t *testing.T, s, want string) {
	t.Helper()
	n := parsed(t, s)
	before := tree.Copy(n)
	got, e := Program(n)
	if e != api.OK || got != want+"\n" {
		t.Errorf("%q: %d\n got %q\nwant %q", s, e, got, want)
	}
	if !reflect.DeepEqual(n, before) {
		t.Errorf("%q: the argument changed", s)
	}
	again, at, e := read.Program(got)
	if e != api.OK || !tree.Same(n, again) {
		t.Errorf("%q, printed as %q: %d at %d\n%s\n%s", s, got, e, at, tree.Dump(n), tree.Dump(again))
	}
	if once, e := Program(again); once != got || e != api.OK {
		t.Errorf("%q printed again: %q", got, once)
	}
}

// kept takes programs that are printed as they are written.
func kept(t *testing.T, l ...string) {
	t.Helper()
	for _, s := range l {
		turned(t, s, s)
	}
}

// keptExpr takes expressions that are printed as they are written.
func keptExpr(t *testing.T, l ...string) {
	t.Helper()
	for _, s := range l {
		n, at, e := read.Expr(s)
		if e != api.OK {
			t.Fatalf("%q: not parsed: %d at %d", s, e, at)
		}
		got, e := Expr(n)
		if e != api.OK || got != s {
			t.Errorf("%q: %d %q", s, e, got)
		}
	}
}

// printed holds the text of a tree, which the parser may refuse, against what it has to be.
func printed(t *testing.T, n api.Node, want string) {
	t.Helper()
	if n.Op != api.NProgram {
		n = of(api.NProgram, 0, "", n)
		want += "\n"
	}
	if got, e := Program(n); e != api.OK || got != want {
		t.Errorf("%s: %d\n got %q\nwant %q", tree.Dump(n), e, got, want)
	}
}
