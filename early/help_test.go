package early

import (
	"pantomime/api"
	"pantomime/read"
	"pantomime/tree"
	"reflect"
	"regexp"
	"strconv"
	"strings"
	"testing"
)

// mark stands in a source or a tree of these tests ahead of the node that has the error.
const mark = "¦"

// parsed is the tree of a source text.
func parsed(t *testing.T, s string) api.Node {
	t.Helper()
	n, at, e := read.Program(s)
	if e != api.OK {
		t.Fatalf("%q: not parsed: %d at %d", s, e, at)
	}
	return n
}

// grown reads a tree from the form of tree.Dump. At of the nodes is 10, 20, 30 and so on, from the left.
func grown(t *testing.T, s string) api.Node {
	t.Helper()
	words := regexp.MustCompile(`[()]|[^() ]+`).FindAllString(s, -1)
	at := 0
	n, rest := node(t, words, &at)
	if len(rest) > 0 {
		t.Fatalf("%s: left over %v", s, rest)
	}
	return n
}

func node(t *testing.T, words []string, at *int) (n api.Node, rest []string) {
	t.Helper()
	*at += 10
	n.Op, n.At = op(t, words[1]), *at
	for rest = words[2:]; rest[0] != ")"; {
		if rest[0] == "(" {
			var k api.Node
			k, rest = node(t, rest, at)
			n.Kids = append(n.Kids, k)
			continue
		}
		switch word := rest[0]; word[0] {
		case '=':
			n.S = strings.ReplaceAll(word[1:], "_", " ")
		case 'M':
			n.M, _ = strconv.Atoi(word[1:])
		default:
			n.N, _ = strconv.Atoi(word)
		}
		rest = rest[1:]
	}
	return n, rest[1:]
}

// op returns the AST kind of a name, and the number itself of any other kind.
func op(t *testing.T, word string) int {
	t.Helper()
	for k := range 100 {
		if tree.Name(k) == word {
			return k
		}
	}
	k, err := strconv.Atoi(word)
	if err != nil {
		t.Fatalf("no kind: %s", word)
	}
	return k
}

// want holds what Check answers of a program, and of its marked copy, against what it has to be.
func want(t *testing.T, s string, n api.Node, at int, e api.Errno) {
	t.Helper()
	before := tree.Copy(n)
	if gotAt, got := Check(n); gotAt != at || got != e {
		t.Errorf("%s: %d at %d, want %d at %d", s, got, gotAt, e, at)
	}
	if gotAt, got := Check(Mark(n)); gotAt != at || got != e {
		t.Errorf("%s, marked: %d at %d, want %d at %d", s, got, gotAt, e, at)
	}
	if !reflect.DeepEqual(n, before) {
		t.Errorf("%s: the argument changed", s)
	}
}

// unmarked returns s without its mark, and what stands ahead of that.
func unmarked(t *testing.T, s string) (whole, ahead string) {
	t.Helper()
	ahead, behind, found := strings.Cut(s, mark)
	if !found {
		t.Fatalf("%s: no mark", s)
	}
	return ahead + behind, ahead
}

// right takes programs without an error.
func right(t *testing.T, l ...string) {
	t.Helper()
	for _, s := range l {
		want(t, s, parsed(t, s), 0, api.OK)
	}
}

// wrong refuses programs for the nodes behind their marks.
func wrong(t *testing.T, e api.Errno, l ...string) {
	t.Helper()
	for _, s := range l {
		whole, ahead := unmarked(t, s)
		want(t, s, parsed(t, whole), len(ahead), e)
	}
}

// rightTree takes programs that the parser may refuse.
func rightTree(t *testing.T, l ...string) {
	t.Helper()
	for _, s := range l {
		want(t, s, grown(t, s), 0, api.OK)
	}
}

// wrongTree refuses programs for the nodes behind their marks; the parser may refuse them too.
func wrongTree(t *testing.T, e api.Errno, l ...string) {
	t.Helper()
	for _, s := range l {
		whole, ahead := unmarked(t, s)
		n := grown(t, whole)
		if !tree.Right(n) {
			t.Fatalf("%s: not well-formed", s)
		}
		want(t, s, n, 10*(1+strings.Count(ahead, "(")), e)
	}
}

// spoil changes every field of every node of n where it stands.
func spoil(n *api.Node) {
	n.Op, n.At, n.N, n.M, n.S = n.Op+1, n.At+1, n.N+1, n.M+1, n.S+"!"
	for i := range n.Kids {
		spoil(&n.Kids[i])
	}
}

// chance is a row of numbers that is the same at each run of the tests.
type chance uint32

func (c *chance) below(n int) int {
	*c = *c*1664525 + 1013904223
	return int(*c>>8) % n
}

func (c *chance) one(l ...string) string { return l[c.below(len(l))] }

// anyNode grows a node of random fields, hardly ever a well-formed one.
func (c *chance) anyNode(depth int) api.Node {
	n := api.Node{At: c.below(9) - 1, N: []int{0, 0, 0, 1, 2, 3, -1, 64, 255}[c.below(9)], M: c.below(3) - 1, S: c.one("", "a", "use strict", "let", "yield", "static")}
	n.Op = c.below(70) - 2
	if c.below(2) == 0 {
		n.Op = []int{api.NProgram, api.NVar, api.NDecl, api.NFunc, api.NParams, api.NBlock, api.NExpr, api.NText, api.NName, api.NCase, api.NSwitch, api.NArrPat, api.PThis}[c.below(13)]
	}
	for range c.below(4) * min(1, depth) {
		n.Kids = append(n.Kids, c.anyNode(depth-1))
	}
	return n
}
