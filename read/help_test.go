package read

import (
	"pantomime/api"
	"pantomime/tree"
	"reflect"
	"strconv"
	"strings"
	"testing"
)

// mark stands in a source of these tests where its error is.
const mark = "¦"

type parsing func(s string) (api.Node, int, api.Errno)

// shown writes a tree: kind@At#N!M:S(children), where N, M and S are left out if they are zero.
func shown(n api.Node) string {
	s := tree.Name(n.Op) + "@" + strconv.Itoa(n.At)
	if n.N != 0 {
		s += "#" + strconv.Itoa(n.N)
	}
	if n.M != 0 {
		s += "!" + strconv.Itoa(n.M)
	}
	if n.S != "" {
		s += ":" + n.S
	}
	if len(n.Kids) == 0 {
		return s
	}
	var kids []string
	for _, k := range n.Kids {
		kids = append(kids, shown(k))
	}
	return s + "(" + strings.Join(kids, " ") + ")"
}

func want(t *testing.T, read parsing, s, tree string) {
	t.Helper()
	n, at, e := read(s)
	if got := shown(n); got != tree || at != 0 || e != api.OK {
		t.Errorf("%q: %d at %d\n got %s\nwant %s", s, e, at, got, tree)
	}
}

// wantExpr holds the tree of an expression against what it has to be.
func wantExpr(t *testing.T, s, tree string) {
	t.Helper()
	want(t, Expr, s, tree)
}

// wantProgram holds the statements of a program against what they have to be.
func wantProgram(t *testing.T, s, tree string) {
	t.Helper()
	if tree != "" {
		tree = "(" + tree + ")"
	}
	want(t, Program, s, "Program@0"+tree)
}

// refuse holds the error of a source, which has a mark where it is, against what it has to be.
func refuse(t *testing.T, read parsing, s string, e api.Errno) {
	t.Helper()
	ahead, behind, found := strings.Cut(s, mark)
	if !found {
		t.Fatalf("%q: no mark", s)
	}
	n, at, got := read(ahead + behind)
	if got != e || at != len(ahead) || !reflect.DeepEqual(n, api.Node{}) {
		t.Errorf("%.200q: %d at %d, want %d at %d; %.200s", ahead+behind, got, at, e, len(ahead), shown(n))
	}
}

// noExpr refuses expressions for the tokens behind their marks.
func noExpr(t *testing.T, l ...string) {
	t.Helper()
	for _, s := range l {
		refuse(t, Expr, s, api.ErrSyntax)
	}
}

// noProgram refuses programs for the tokens behind their marks.
func noProgram(t *testing.T, l ...string) {
	t.Helper()
	for _, s := range l {
		refuse(t, Program, s, api.ErrSyntax)
	}
}

// noTarget refuses programs for the expressions behind their marks, which can't be assigned to.
func noTarget(t *testing.T, l ...string) {
	t.Helper()
	for _, s := range l {
		refuse(t, Program, s, api.ErrTarget)
	}
}

// accept takes programs, of whatever trees.
func accept(t *testing.T, l ...string) {
	t.Helper()
	for _, s := range l {
		n, at, e := Program(s)
		if n.Op != api.NProgram || !tree.Right(n) || at != 0 || e != api.OK {
			t.Errorf("%.200q: %d at %d", s, e, at)
		}
	}
}

// same holds the trees of pairs of expressions against each other, but for their places.
func same(t *testing.T, l ...[2]string) {
	t.Helper()
	for _, x := range l {
		a, _, e := Expr(x[0])
		b, _, f := Expr(x[1])
		if e != api.OK || f != api.OK || !tree.Same(a, b) {
			t.Errorf("%q: %d %s\n%q: %d %s", x[0], e, shown(a), x[1], f, shown(b))
		}
	}
}
