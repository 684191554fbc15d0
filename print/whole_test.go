package print

import (
	"pantomime/api"
	"pantomime/early"
	"pantomime/read"
	"pantomime/tree"
	"slices"
	"strings"
	"testing"
)

func TestForm(t *testing.T) { // P9.1
	a, e := name("a"), of(api.NEmpty, 0, "")
	params, block := of(api.NParams, 0, ""), of(api.NBlock, 0, "")
	wrong := []api.Node{{}, of(0, 0, "", a), of(api.NProgram, 2, ""), of(api.NProgram, 0, "a"), of(api.NProgram, 0, "", a), of(api.NProgram, 0, "", of(api.NProgram, 0, "")), {Op: api.NProgram, At: -1}, of(api.NProgram, 0, "", of(api.NExpr, 0, "")), of(api.NBinary, 0, "&&", a, a), of(api.NBinary, 0, "+", a), of(api.NDot, 1, "a", a), of(api.NChain, 0, "", of(api.NDot, 0, "a", a)), of(api.NNum, -1, ""), of(api.NNum, api.MaxInt+1, ""), of(api.NName, 0, ""), of(api.NName, 0, "1a"), of(api.NText, 1, ""), of(api.NFunc, api.FArrow|api.FGen, "", params, block), of(api.PThis, 0, "")}
	wrong = append(wrong, e, block, params, of(api.NExpr, 0, "", a), of(api.NFunc, api.FDecl, "a", params, block), of(api.NFunc, api.FGet, "", params, block), of(api.NFunc, api.FSet, "", params, block), of(api.NFunc, api.FMethod|api.FGen, "", params, block), of(api.NHole, 0, ""), of(api.NSpread, 0, "", a), of(api.NProp, api.PropSpread, "", a), of(api.NArrPat, 0, ""), of(api.NObjPat, 0, ""), of(api.NRest, 0, "", a), of(api.NDefault, 0, "", a, a), of(api.NDecl, 0, "", a))
	for _, n := range wrong {
		if s, e := Program(n); s != "" || e != api.ErrForm {
			t.Errorf("Program(%s): %q %d", tree.Dump(n), s, e)
		}
		if s, e := Expr(n); s != "" || e != api.ErrForm {
			t.Errorf("Expr(%s): %q %d", tree.Dump(n), s, e)
		}
	}
	if s, e := Program(a); s != "" || e != api.ErrForm {
		t.Errorf("an expression as a program: %q %d", s, e)
	}
	if s, e := Expr(of(api.NProgram, 0, "")); s != "" || e != api.ErrForm {
		t.Errorf("a program as an expression: %q %d", s, e)
	}
	for depth, want := range map[int]api.Errno{200: api.OK, 201: api.ErrForm} {
		n := a
		for range depth - 1 {
			n = of(api.NUnary, 0, "!", n)
		}
		if s, e := Expr(n); e != want || e == api.OK && s != strings.Repeat("!", 199)+"a" {
			t.Errorf("depth %d: %d", depth, e)
		}
	}
}

func TestLong(t *testing.T) { // P9.1
	long := func(length int) string { return strings.Repeat("x", length) }
	function := of(api.NFunc, 0, "", of(api.NParams, 0, ""), of(api.NBlock, 0, ""))
	for _, x := range []struct {
		n     func(s string) api.Node
		extra int // how many bytes the text has beside those of s
	}{
		{func(s string) api.Node { return text(s) }, 2},
		{func(s string) api.Node { return name(s) }, 0},
		{func(s string) api.Node { return of(api.NTemplate, 0, "", text(s)) }, 2},
		{func(s string) api.Node { return of(api.NTemplate, 0, "", text("$"), name("a"), text(s)) }, 8},
		{func(s string) api.Node { return of(api.NDot, 0, s, name("a")) }, 2},
		{func(s string) api.Node { return of(api.NUnary, 0, "-", of(api.NUnary, 0, "-", name(s))) }, 3},
		{func(s string) api.Node {
			return of(api.NFunc, api.FArrow|api.FShort, "", of(api.NParams, 0, ""), of(api.NDot, 0, s, of(api.NObject, 0, "")))
		}, 11},
		{func(s string) api.Node {
			return of(api.NObject, 0, "", of(api.NProp, api.PropValue, "", text(s+"-"), name("a")))
		}, 8},
		{func(s string) api.Node { return of(api.NSeq, 0, "", name(s), name("a"), name("a")) }, 6},
		{func(s string) api.Node { return of(api.NArray, 0, "", of(api.NHole, 0, ""), text(s+"\n")) }, 8},
	} {
		for spare, want := range map[int]api.Errno{1: api.OK, 0: api.OK, -1: api.ErrLong, -2: api.ErrLong, -500: api.ErrLong, -200000: api.ErrLong} {
			n := x.n(long(api.MaxSrc - x.extra - spare))
			if s, e := Expr(n); e != want || e == api.OK && len(s) != api.MaxSrc-spare || e != api.OK && s != "" {
				t.Errorf("%.40s: %d bytes, %d, with %d to spare", tree.Dump(n), len(s), e, spare)
			}
			if n.Op == api.NObject {
				continue // a statement has it in parentheses
			}
			n = of(api.NProgram, 0, "", of(api.NExpr, 0, "", x.n(long(api.MaxSrc-x.extra-2-spare))))
			if s, e := Program(n); e != want || e == api.OK && len(s) != api.MaxSrc-spare || e != api.OK && s != "" {
				t.Errorf("%.40s: %d bytes, %d, with %d to spare", tree.Dump(n), len(s), e, spare)
			}
		}
	}
	for spare, want := range map[int]api.Errno{0: api.OK, -1: api.ErrLong, -2: api.ErrLong} {
		n := of(api.NProgram, 0, "", of(api.NExpr, 0, "", of(api.NDot, 0, long(api.MaxSrc-19-spare), function)))
		if s, e := Program(n); e != want || e == api.OK && len(s) != api.MaxSrc-spare {
			t.Errorf("a function with %d to spare: %d bytes, %d", spare, len(s), e)
		}
	}
	var kids []api.Node
	for range 1 << 18 {
		kids = append(kids, of(api.NEmpty, 0, ""))
	}
	if s, e := Program(of(api.NProgram, 0, "", kids...)); s != "" || e != api.ErrLong {
		t.Errorf("very many statements: %d", e)
	}
	if s, e := Program(of(api.NProgram, 0, "", kids[:api.MaxSrc/2]...)); len(s) != api.MaxSrc || e != api.OK {
		t.Errorf("as many statements as can be: %d bytes, %d", len(s), e)
	}
	// A tree that is not valid is told ahead of its length.
	if _, e := Program(of(api.NProgram, 0, "", append(kids, name("a"))...)); e != api.ErrForm {
		t.Errorf("very many statements and an expression: %d", e)
	}
}

// TestParsed prints and parses programs that are written in other ways than they are printed.
func TestParsed(t *testing.T) { // P9.3
	for _, s := range []string{
		"", " \n// a\n", ";", "a\nb\n/* c */ d", "'use strict'\na", "'a'\n'use strict'; b", "a; 'use strict'", "function f() { 'use strict' }", "(() => { \"use strict\"; a })()", "({ m() { 'use strict' } })",
		"var a = (b, c), {d, e: [f] = g, ...h} = (i), [j, , ...{k}] = l", "((a)) = ((b))", "[(a), (b.c)] = d", "({a: (b), c: (d[e]) = f} = g)", "((a, b) => (c))", "(a) => ((b, c))", "async => (a => { b })",
		"if (a) if (b) c; else d; else e", "if (a) for (;;) if (b) c; else d", "if (a) do if (b) c; while (d); else e", "a: if (b) c; else while (d) if (e) f; else g",
		"(a ?? b) || (c && (d ?? e))", "a || b && c || d", "(a || b) && (c || d)", "a ?? (b ?? c)", "(a || b) ?? (c && d)", "(a, b) ?? c ? (d, e) : (f = g)", "a - (b - c) - d", "(a * b) / (c / d) % e", "(a < b) < (c < d)", "!(a in b) in (c in d)", "-(-(-a)) - (-b)", "(a = b) ? (c = d) : (e = f)", "(a ? b : c) ? d : (e ? f : g)", "(a => b) || c", "(typeof a)()", "(a++).b", "(-a)[b]", "(a + b)(c)", "(function() {})()", "(function() {} + 1)", "({} + 1)", "({}).a = b", "({a} = b)", "[{}]", "`${{}}${`${a}`}`",
		"new (a.b().c)", "new (a().b.c())", "new (a[b()])", "new ((a()))", "new ((a?.b).c)", "new new (a())()", "(new a)()", "(new a)?.b", "((a?.b)?.c).d", "(a?.b.c)(d)", "a?.[(b, c)]", "1 .a", "1 ?.a",
		"for ((a in b);;) ;", "for (var a = (b in c), d;;) ;", "for (a => { b in c };;) ;", "for (let a of (b, c)) ;", "for ((a) of b) ;", "for ([(a)] in (b, c)) ;", "for (a = 1, b = (c, d); (e, f); (g)) ;", "for (of;;) ;", "for (of in a) ;", "for (var of;;) ;",
		"function* a(yield1) { yield\nb; yield* (c, d); (yield) + (yield a); [yield]; ({[yield]: yield}); (yield) => yield; function b(yield) { yield } }", "yield: while (a) break yield", "({yield, of, get, set})", "({get: a, set() {}, *get() {}, get set() {}})",
	} {
		n := parsed(t, s)
		out, e := Program(n)
		again, at, f := read.Program(out)
		if e != api.OK || f != api.OK || !tree.Same(n, again) {
			t.Errorf("%q, printed %q: %d, %d at %d\n%s\n%s", s, out, e, f, at, tree.Dump(n), tree.Dump(again))
		}
		if once, e := Program(again); once != out || e != api.OK {
			t.Errorf("%q printed again: %q", out, once)
		}
	}
}

// TestDirectives prints what is a directive only for those who read the tree.
func TestDirectives(t *testing.T) { // P9.3
	turnedStrict := func(s, want string) {
		t.Helper()
		n := parsed(t, s)
		out, e := Program(n)
		if out != want || e != api.OK {
			t.Errorf("%q: %q %d", s, out, e)
		}
		again := parsed(t, out)
		if tree.Same(n, again) || !tree.Same(early.Mark(n), early.Mark(again)) {
			t.Errorf("%q, printed %q: %s", s, out, tree.Dump(again))
		}
	}
	turnedStrict("('use strict')", "\"use strict\";\n")
	turnedStrict("'use\\x20strict'", "\"use strict\";\n")
	turnedStrict("'a'; function f() { ('use strict'); b }", "\"a\";\nfunction f() { \"use strict\"; b; }\n")
	kept(t, "\"use strict\";", "\"a\";\n\"use strict\";\nb;", "a;\n\"use strict\";", "function f() { \"use strict\"; }", "\"use strict\".a;", "{ \"use strict\"; }")
}

func TestRoundTrip(t *testing.T) { // P9.3
	g := &grower{chance: 1}
	sizes := 0
	for range 3000 {
		n := g.program()
		if !tree.Right(n) {
			t.Fatalf("not well-formed: %s", tree.Dump(n))
		}
		s, e := Program(n)
		if e == api.ErrLong {
			continue
		}
		sizes += tree.Size(n)
		again, at, f := read.Program(s)
		if e != api.OK || f != api.OK || !tree.Same(n, again) {
			t.Fatalf("%q: %d, %d at %d\n%s\n%s", s, e, f, at, tree.Dump(n), tree.Dump(again))
		}
		if once, e := Program(again); once != s || e != api.OK {
			t.Fatalf("%q printed again: %q", s, once)
		}
	}
	if sizes < 100000 {
		t.Errorf("%d nodes", sizes)
	}
}

func TestRoundTripOfExpressions(t *testing.T) { // P9.3
	g := &grower{chance: 2}
	for range 5000 {
		n := g.expression()
		s, e := Expr(n)
		if e == api.ErrLong {
			continue
		}
		again, at, f := read.Expr(s)
		if e != api.OK || f != api.OK || !tree.Same(n, again) {
			t.Fatalf("%q: %d, %d at %d\n%s\n%s", s, e, f, at, tree.Dump(n), tree.Dump(again))
		}
		if once, e := Expr(again); once != s || e != api.OK {
			t.Fatalf("%q printed again: %q", s, once)
		}
	}
}

// TestPairs prints every kind of operand in every place of every operator, and holds what is read again against it; where the printer writes parentheses, the text without them has to be another tree or none.
func TestPairs(t *testing.T) { // P9.1, P9.3
	a := name("a")
	var operands []api.Node
	for _, s := range []string{"a", "a, b", "a = b", "(a) => b", "() => { }", "a ? b : c", "a ?? b", "a || b", "a && b", "a | b", "a ^ b", "a & b", "a == b", "a < b", "a in b", "a << b", "a + b", "a - b", "a * b", "a % b", "-a", "+a", "!a", "typeof a", "++a", "--a", "a++", "a()", "a.b", "a[b]", "a().b", "a?.b", "a?.()", "new a()", "new a().b", "new a.b()", "1", "\"a\"", "`a`", "[]", "{}", "this", "function() { }"} {
		n, at, e := read.Expr(s)
		if e != api.OK {
			t.Fatalf("%q: %d at %d", s, e, at)
		}
		operands = append(operands, n)
	}
	parents := []api.Node{of(api.NSeq, 0, "", a, a), of(api.NAssign, 0, "=", a, a), of(api.NCond, 0, "", a, a, a), of(api.NUnary, 0, "-", a), of(api.NUnary, 0, "void", a), of(api.NUnary, 0, "+", a), of(api.NCall, 0, "", a, a), of(api.NNew, 0, "", a, a), of(api.NDot, 0, "b", a), of(api.NIndex, 0, "", a, a), of(api.NArray, 0, "", a, of(api.NSpread, 0, "", a)), of(api.NTemplate, 0, "", text(""), a, text("")), of(api.NFunc, api.FArrow|api.FShort, "", of(api.NParams, 0, ""), a)}
	for _, op := range strings.Fields("| ^ & == < in << + - * %") {
		parents = append(parents, of(api.NBinary, 0, op, a, a))
	}
	for _, op := range strings.Fields("?? || &&") {
		parents = append(parents, of(api.NLogic, 0, op, a, a))
	}
	for _, parent := range parents {
		for i, old := range parent.Kids {
			if old.Op != api.NName || parent.Op == api.NAssign && i == 0 {
				continue
			}
			for _, kid := range operands {
				pair(t, parent, kid, i)
			}
		}
	}
}

// pair tries kid as the child of parent at index i.
func pair(t *testing.T, parent, kid api.Node, i int) {
	n := tree.Copy(parent)
	n.Kids[i] = kid
	s, e := Expr(n)
	again, at, f := read.Expr(s)
	if e != api.OK || f != api.OK || !tree.Same(n, again) {
		t.Errorf("%q: %d, %d at %d", s, e, f, at)
	}
	inner, _ := Expr(kid)
	bare := strings.Replace(s, "("+inner+")", " "+inner, 1)
	wrapped := Needs(n, kid, i)
	if n.Op == api.NFunc && inner[0] == '{' {
		wrapped = true
	}
	if !wrapped {
		return
	}
	if bare == s {
		t.Errorf("%q: %q is not in parentheses", s, inner)
	}
	if again, _, e := read.Expr(bare); e == api.OK && tree.Same(n, again) {
		t.Errorf("%q: no need of parentheses", s)
	}
}

// isOpen reports whether an else behind a statement would be taken for a part of it.
func isOpen(n api.Node) bool {
	switch n.Op {
	case api.NIf:
		return len(n.Kids) == 2 || isOpen(n.Kids[2])
	case api.NFor, api.NForIn, api.NForOf, api.NWhile, api.NLabel:
		return isOpen(n.Kids[len(n.Kids)-1])
	}
	return false
}

// isDirective reports whether a statement is a text alone.
func isDirective(n api.Node) bool {
	return n.Op == api.NExpr && n.Kids[0].Op == api.NText
}

// strict tells whether a list of statements begins with a directive that makes it strict.
func strict(l []api.Node) bool {
	i := slices.IndexFunc(l, func(n api.Node) bool { return !isDirective(n) || n.Kids[0].S == "use strict" })
	return i >= 0 && isDirective(l[i])
}
