package read

import (
	"pantomime/api"
	"pantomime/token"
	"pantomime/tree"
	"reflect"
	"strings"
	"testing"
)

func TestExamples(t *testing.T) { // P7.1, P7.2
	for _, read := range []parsing{Expr, Program} {
		refuse(t, read, "a ?? b ¦|| c", api.ErrSyntax)
		refuse(t, read, "¦[a, 1] = c", api.ErrTarget)
		refuse(t, read, "({a ¦= 1})", api.ErrSyntax)
	}
	wantExpr(t, "({a = 1} = b)", "Assign@1:=(ObjPat@1(PatProp@2(Text@2:a Default@2(Name@2:a Num@6#1))) Name@11:b)")
	wantExpr(t, "(a, ...b) => a", "Func@0#130(Params@0(Name@1:a Rest@4(Name@7:b)) Name@13:a)")
}

func TestErrorsOfTokens(t *testing.T) { // P7.1, P7.2
	for _, read := range []parsing{Expr, Program} {
		refuse(t, read, "a + ¦#", api.ErrChar)
		refuse(t, read, "a = ¦'b", api.ErrEnd)
		refuse(t, read, "a ¦/* b", api.ErrEnd)
		refuse(t, read, "a + ¦'\\q'", api.ErrEscape)
		refuse(t, read, "a + ¦'b\n'", api.ErrToken)
		refuse(t, read, "a + ¦01", api.ErrToken)
		refuse(t, read, "`a${b¦}c", api.ErrEnd)
		// They come ahead of every error of the parser.
		refuse(t, read, ") ) ¦#", api.ErrChar)
		refuse(t, read, "1 = 2 ¦'", api.ErrEnd)
		refuse(t, read, "({a = 1}) ¦'\\x'", api.ErrEscape)
		refuse(t, read, "¦"+strings.Repeat(" ", api.MaxSrc+1), api.ErrLong)
		refuse(t, read, "¦)"+strings.Repeat("#", api.MaxSrc), api.ErrLong)
		refuse(t, read, strings.Repeat(" ", api.MaxSrc-1)+"¦)", api.ErrSyntax)
	}
	refuse(t, Expr, "¦", api.ErrSyntax)
	refuse(t, Expr, strings.Repeat(" ", api.MaxSrc)+"¦", api.ErrSyntax)
	wantProgram(t, strings.Repeat(" ", api.MaxSrc), "")
	wantExpr(t, strings.Repeat(" ", api.MaxSrc-1)+"a", "Name@65535:a")
}

func TestWhole(t *testing.T) { // P7.1, P7.2
	noProgram(t, "a ¦b", "a; ¦}", "a; ¦)", "{} ¦] a", "¦}")
	noExpr(t, "a¦;", "a ¦b", "a, b¦}", "a\n¦b", "{}¦{}", "¦;", "¦if (a) b", "¦var a", "a¦: b", "¦return a", "a ¦let b")
}

func TestDepth(t *testing.T) { // P7.1, P7.2
	not := func(count int) string { return strings.Repeat("!", count) + "a" }
	for _, x := range []struct {
		read parsing
		s    string
	}{
		{Expr, not(199)}, {Program, not(197)}, {Expr, strings.Repeat("(", 5000) + not(199) + strings.Repeat(")", 5000)}, {Program, strings.Repeat("{", 198) + strings.Repeat("}", 198) + ";"}, {Program, strings.Repeat("{", 198) + ";" + strings.Repeat("}", 198)}, {Program, not(197) + "; " + not(197)},
	} {
		n, at, e := x.read(x.s)
		if !tree.Right(n) || at != 0 || e != api.OK {
			t.Errorf("%.10q: %d at %d", x.s, e, at)
		}
	}
	for _, s := range []string{not(200), strings.Repeat("[", 201) + strings.Repeat("]", 201), "a" + strings.Repeat(".b", 200), "a" + strings.Repeat(" + b", 200), strings.Repeat("a ? b : ", 200) + "c", strings.Repeat("a => ", 200) + "b", strings.Repeat("a = ", 200) + "b", "a" + strings.Repeat("()", 200), strings.Repeat("new ", 200) + "a", strings.Repeat("[[a = ", 100) + "1" + strings.Repeat("]] = 1", 100), strings.Repeat("[x[", 100) + "1" + strings.Repeat("]] = 1", 100)} {
		refuse(t, Expr, "¦"+s, api.ErrDeep)
		refuse(t, Program, "¦;a; ("+s+")", api.ErrDeep)
		// An error of the parser comes ahead of it, wherever it is.
		refuse(t, Expr, s+" ¦)", api.ErrSyntax)
		refuse(t, Program, "("+s+");a ¦b", api.ErrSyntax)
		refuse(t, Program, "("+s+"); (¦1 = a)", api.ErrTarget)
	}
	refuse(t, Program, "¦"+not(198), api.ErrDeep)
	refuse(t, Program, "¦"+strings.Repeat("{", 199)+";"+strings.Repeat("}", 199), api.ErrDeep)
	refuse(t, Program, "¦"+strings.Repeat("if (a) ", 199)+";", api.ErrDeep)
	refuse(t, Program, "¦for ("+strings.Repeat("[", 150)+"x["+not(60)+"]"+strings.Repeat("]", 150)+" of a) b", api.ErrDeep)
}

// TestNested reads sources of the greatest length that nest as deep as they can; none of them may take long or too much of the stack.
func TestNested(t *testing.T) { // P7.1, by the rule R1
	full := func(s string) string { return strings.Repeat(s, api.MaxSrc/len(s)) }
	half := func(left, middle, right string) string {
		count := (api.MaxSrc - len(middle)) / (len(left) + len(right))
		return strings.Repeat(left, count) + middle + strings.Repeat(right, count)
	}
	for _, s := range []string{"(", "[", "{", "!", "a?", "a=", "f(", "`${", "new ", "a=>", "(a=", "([", "for(", "a?.[", "if(a)", "[...", "({a:", "a:", "({a(){", "({[", "function f(){", "()=>{", "(a=>", "++", "yield ", "switch(a){case b:", "try{", "do "} {
		if n, at, e := Program(full(s)); e != api.ErrSyntax || at == 0 || !reflect.DeepEqual(n, api.Node{}) {
			t.Errorf("%q: %d at %d", s, e, at)
		}
	}
	for _, s := range []string{half("(", "a", ")"), half("(((a=", "1", ")))"), half("a,(", "b", ")")} {
		if _, at, e := Expr(s); at != 0 || e != api.OK && e != api.ErrDeep {
			t.Errorf("%.10q: %d at %d", s, e, at)
		}
	}
	for _, s := range []string{half("[", "", "]=1"), half("[", "a", "]"), half("x[", "1", "]=1"), half("[x[", "1", "]=1]"), half("[[a=", "1", "]]=1"), half("({a:", "1", "})"), half("[{a:", "b", "}]=1"), half("({a=", "1", "}=b)"), half("`${", "a", "}`"), half("(a=", "1", ")=>1"), half("x=>{", "", "}"), half("f(", "a", ")"), half("[...[", "a", "]]=1"), "a" + strings.Repeat("+b", 32000), "a" + strings.Repeat(".b", 32000)} {
		if _, at, e := Program(s); at != 0 && e != api.ErrSyntax && e != api.ErrTarget || e == api.OK {
			t.Errorf("%.10q: %d at %d", s, e, at)
		}
	}
}

// relaxed clears what directives set, because text in parentheses is written without them.
func relaxed(n api.Node) api.Node {
	n = tree.Plain(n)
	relax(&n)
	return n
}

func relax(n *api.Node) {
	switch n.Op {
	case api.NProgram:
		n.N = 0
	case api.NFunc:
		n.N &^= api.FStrict
	}
	for i := range n.Kids {
		relax(&n.Kids[i])
	}
}

func TestGrown(t *testing.T) { // P7.1, P7.4
	c, right := &chance{state: 1}, 0
	for range 10000 {
		s := c.statement() + " " + c.statement()
		n, at, e := Program(s)
		if e != api.OK {
			continue
		}
		right++
		if at != 0 || !tree.Right(n) {
			t.Errorf("%q: not well-formed: %s", s, shown(n))
		}
		again, at, e := Program(written(n))
		if e != api.OK || !tree.Same(relaxed(again), relaxed(n)) {
			t.Errorf("%q\nwritten %q: %d at %d\n got %s\nwant %s", s, written(n), e, at, shown(again), shown(n))
		}
	}
	if right < 2000 {
		t.Errorf("%d programs", right)
	}
}

// starts returns the offsets at which tokens of s begin.
func starts(s string) map[int]bool {
	l, _, _ := token.All(s)
	at := map[int]bool{}
	for _, x := range l {
		at[x.At] = true
	}
	return at
}

func TestPlaces(t *testing.T) { // P7.1
	c := &chance{state: 2}
	for range 5000 {
		s := c.statement() + c.statement()
		n, _, _ := Program(s)
		at := starts(s)
		for _, x := range tree.Walk(n) {
			if x.Op != api.NProgram && !at[x.At] {
				t.Fatalf("%q: no token begins at %d: %s", s, x.At, shown(n))
			}
			// Children begin in order, and not ahead of their parent, but for the functions of properties.
			last := x.At
			for _, k := range x.Kids {
				if k.At < last && x.Op != api.NProp {
					t.Fatalf("%q: %s", s, shown(x))
				}
				last = k.At
			}
		}
	}
}

func TestBroken(t *testing.T) { // P7.1, P7.2, P7.4, by the rules R1 and R2
	c := &chance{state: 3}
	for range 6000 {
		s := c.broken(c.statement() + " " + c.statement())
		l, fault, e := token.All(s)
		for _, read := range []parsing{Program, Expr} {
			n, at, got := read(s)
			switch {
			case e != api.OK && (got != e || at != fault):
				t.Errorf("%q: %d at %d, want %d at %d", s, got, at, e, fault)
			case got == api.OK && (at != 0 || !tree.Right(n)):
				t.Errorf("%q: at %d, %s", s, at, shown(n))
			case got != api.OK && !reflect.DeepEqual(n, api.Node{}):
				t.Errorf("%q: a tree beside %d", s, got)
			case e == api.OK && got != api.OK && got != api.ErrSyntax && got != api.ErrTarget:
				t.Errorf("%q: %d at %d", s, got, at)
			case e == api.OK && got != api.OK && !starts(s)[at]:
				t.Errorf("%q: %d at %d, where no token begins: %v", s, got, at, l)
			}
		}
	}
}

// laid writes the tokens of s with other gaps between them, and returns the offset of each token by its old one.
func (c *chance) laid(s string) (string, map[int]int) {
	l, _, _ := token.All(s)
	places := map[int]int{}
	var b strings.Builder
	for _, x := range l {
		if x.Line {
			b.WriteString(c.one("\n", "\r", " \n\t", " /*\n*/", " // a\n", " //\r/* */"))
		} else {
			b.WriteString(c.one(" ", "\t", "  ", " /**/", " /* a ; */"))
		}
		places[x.At] = b.Len()
		b.WriteString(s[x.At:x.To])
	}
	return b.String(), places
}

func TestGaps(t *testing.T) { // P7.4
	c, right := &chance{state: 4}, 0
	for range 10000 {
		s := c.statement() + " " + c.statement()
		if c.below(2) == 0 {
			s = c.broken(s)
		}
		if _, _, e := token.All(s); e != api.OK {
			continue
		}
		other, places := c.laid(s)
		n, at, e := Program(s)
		m, bt, f := Program(other)
		if e != f || !tree.Same(n, m) || e != api.OK && bt != places[at] {
			t.Fatalf("%q: %d at %d\n%q: %d at %d", s, e, at, other, f, bt)
		}
		if e == api.OK {
			right++
			moved(t, n, m, places)
		}
	}
	if right < 1000 {
		t.Errorf("%d programs", right)
	}
}

// moved checks that the nodes of m stand where those of n went.
func moved(t *testing.T, n, m api.Node, places map[int]int) {
	t.Helper()
	if n.Op != api.NProgram && m.At != places[n.At] {
		t.Errorf("%s moved to %d", shown(n), m.At)
	}
	for i := range n.Kids {
		moved(t, n.Kids[i], m.Kids[i], places)
	}
}

// spoil changes every node of n where it stands.
func spoil(n *api.Node) {
	n.Op, n.At, n.N, n.M, n.S = n.Op+1, n.At+1, n.N+1, n.M+1, n.S+"!"
	for i := range n.Kids {
		spoil(&n.Kids[i])
	}
}

func TestSharesNothing(t *testing.T) { // P7.1, P7.2, by the rule R5
	c := &chance{state: 5}
	for range 2000 {
		s := c.statement()
		n, _, e := Program(s)
		for i := range n.Kids {
			for j := range n.Kids[i].Kids {
				before := shown(api.Node{Kids: n.Kids[i].Kids[:j]})
				spoil(&n.Kids[i].Kids[j])
				if shown(api.Node{Kids: n.Kids[i].Kids[:j]}) != before {
					t.Fatalf("%q: two children share memory", s)
				}
			}
		}
		m, _, f := Program(s)
		again, _, g := Program(s)
		if e != f || f != g || !reflect.DeepEqual(m, again) {
			t.Fatalf("%q: %s then %s", s, shown(m), shown(again))
		}
	}
}
