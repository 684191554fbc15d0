package early

import (
	"pantomime/api"
	"pantomime/cover"
	"slices"
	"strings"
	"testing"
)

func TestConflictsOfLexicals(t *testing.T) { // P8.2, item 6
	for _, s := range []string{"let a; let ¦a", "let a, ¦a", "let a = 1; const ¦a = 2", "var a; let ¦a", "let a; var ¦a", "const a = 1; var b, ¦a", "let [a, ¦a] = b", "const {a, b: [¦a]} = c", "let {a = 1, ...¦a} = b", "let a; ¦function a() {}", "function a() {} let ¦a", "let a; { var ¦a }", "{ var a } let ¦a", "let a; { { while (b) { var ¦a } } }", "for (var a;;) ; let ¦a", "for (var a of b) ; let ¦a", "let a; for (var ¦a in b) ;", "if (c) var a; let ¦a", "let a; try {} catch { var ¦a }", "{ { var a } { var a } } const ¦a = 1", "{ var b } { var a; let c } let b2, ¦a"} {
		wrong(t, api.ErrAgain, s, "{ "+s+" }", "(function() { "+s+" })", "() => { "+s+" }", "({m() { "+s+" }})", "switch (z) { case y: "+s+" }", "while (z) { "+s+" }", "try { "+s+" } catch {}", "try {} catch { "+s+" }", "try {} catch {} finally { "+s+" }", "for (let z;;) { "+s+" }", "var z; { let y; { var y2 } } "+s)
	}
	for _, s := range []string{"let a; { let a }", "let a; { const a = 1; { let a } }", "{ let a } let a", "{ let a } { let a }", "{ let a } var a", "var a, a; var a", "var [a, a] = b", "let a; (function() { var a; { var a } })", "(function() { var a }); let a", "let a; () => { let a }", "let a; function f(a) {}", "let a; ({m(a) { var b }}); let b", "let a, A", "let a; b = a", "var a; { let b; { var a } }", "let b; ({a: b, a: b}); [b, b] = c; a => b", "let a; for (let a;;) { let a }", "{ function a() {} } let a", "{ function a() {} } { let a }", "a: ; let a", "let a; (function a() {})"} {
		right(t, s, "{ "+s+" }", "(function() { "+s+" })", "() => { "+s+" }", "switch (z) { case y: "+s+" }", "try {} catch { "+s+" }")
	}
}

func TestConflictsOfFunctions(t *testing.T) { // P8.2, item 6
	// As a body statement a function is a var declaration, elsewhere a lexical one.
	right(t, "function a() {} function a() {}", "var a; function a() {} var a", "(function() { function a() {} function* a() {} var a })", "() => { var a; function a() {} }", "function f(a) { function a() {} var a }", "function a() { function a() {} }", "function a(a) { var a }", "function f() { let f }", "(function f() { let f })", "(function f(f) { var f })", "{ function a() {} { function a() {} } }", "{ function a() { var a; let b } } { let a }", "var a; { function a() {} }", "function a() {} { let a }")
	wrong(t, api.ErrAgain, "{ function a() {} ¦function a() {} }", "{ function a() {} var ¦a }", "{ var a; ¦function a() {} }", "switch (b) { case c: function a() {} default: ¦function a() {} }", "while (b) { var a; { var c } ¦function a() {} }", "try { function a() {} ¦function a() {} } catch {}", "try {} catch (a) { ¦function a() {} }", "(function() { { function a() {} ¦function* a() {} } })", "let a; ¦function a() {}", "(function() { let a; ¦function a() {} })", "{ function a() {} { var ¦a } }", "function f(a) { let ¦a }", "function f() {} { var f } let ¦f")
}

func TestConflictsOfParameters(t *testing.T) { // P8.2, item 6
	right(t, "function f(a, b, a) {}", "(function(a, a) { return a })", "(function*(a, a) {})", "function f(a) { var a }", "function f(a) { var a; { var a } }", "function f(a) { { let a } }", "function f(a, b = function(a) {}) {}", "(a) => (a) => a", "(a, b = (a) => a) => a", "({m(a) { var a }, n(a) {}})", "function f(a, a) { (b) => { 'use strict' } }", "function f([a]) { var a }", "({set a(b) { var b }})")
	wrong(t, api.ErrAgain, "(a, ¦a) => a", "(a, b, ¦a) => { var c }", "({m(a, ¦a) {}})", "({*m(a, ¦a) {}})", "({set a([b, ¦b]) {}})", "function f(a, ¦a) { 'use strict' }", "'use strict'; function f(a, ¦a) {}", "'use strict'; (function() { (function*(a, ¦a) {}) })", "function f(a, [¦a]) {}", "function f([a], ¦a) {}", "function f(a, ¦a, b = 1) {}", "function f(a, ¦a = 1) {}", "function f(a, ...¦a) {}", "function f({a, b: ¦a}) {}", "(function(a, {¦a}) {})", "(a, [b, {c: ¦a}]) => 1", "function f(a) { let ¦a }", "(a) => { const ¦a = 1 }", "({m(a) { let ¦a }})", "({set a(b) { let ¦b }})", "function f([a, b]) { let c, ¦b }", "(a, b = (a, ¦a) => a, a) => a")
}

func TestConflictsInStatements(t *testing.T) { // P8.2, item 6
	wrong(t, api.ErrAgain, "for (let a, ¦a;;) ;", "for (let a;;) var ¦a", "for (let a;;) { var ¦a }", "for (const a of b) { var ¦a }", "for (let a in b) { { var ¦a } }", "for (let [a, ¦a] of b) ;", "for (let a of b) for (var ¦a of c) ;", "switch (a) { case b: let c; case d: let ¦c }", "switch (a) { case b: let c; default: var ¦c }", "switch (a) { case b: { var c } default: let ¦c }", "try {} catch (a) { var ¦a }", "try {} catch (a) { let ¦a }", "try {} catch (a) { { var ¦a } }", "try {} catch ([a, ¦a]) {}", "try {} catch ({a}) { for (var ¦a of b) ; }", "let a; try {} catch (b) { var ¦a }", "try {} catch (b) { var a } let ¦a")
	right(t, "for (let a;;) { let a }", "for (let a of b) { let a }", "for (var a of b) { let a }", "for (let a of b) ; for (let a of b) ; let a", "for (let a;;) for (let a;;) ;", "for (var a, a;;) ;", "switch (a) { case b: let c } let c", "switch (a) { case b: { let c } case d: { let c } }", "switch (a) { case b: var c; case d: var c }", "try { let a } catch (a) { { let a } } finally { let a }", "try { var a } catch (b) { var a }", "let a; try {} catch (a) {}", "try {} catch (a) {} try {} catch (a) {}", "try {} catch (a) { (function() { var a }) }", "try { var a } catch (a) {}", "try {} catch (a) {} finally { var a }")
}

// grower grows programs that declare a few names again and again.
type grower struct {
	chance
	depth int
}

func (g *grower) name() string { return g.one("a", "b", "c", "d", "e", "f") }

func (g *grower) target() string {
	return g.one(g.name(), g.name(), "["+g.name()+", "+g.name()+"]", "{k: "+g.name()+", "+g.name()+" = 1, ...r}")
}

func (g *grower) parameters() string {
	return g.one("()", "("+g.name()+", "+g.name()+")", "("+g.name()+" = 1, ..."+g.name()+")", "("+g.target()+" = 1)")
}

func (g *grower) body() string { return g.one("{ ", "{ ", "{ 'use strict'; ") + g.statements() + " }" }

func (g *grower) statements() string {
	if g.depth > 4 {
		return ""
	}
	g.depth++
	var l []string
	for range g.below(4) {
		l = append(l, g.statement())
	}
	g.depth--
	return strings.Join(l, " ")
}

func (g *grower) statement() string {
	switch g.below(16) {
	case 0, 1, 2:
		return "var " + g.target() + " = 1;"
	case 3, 4:
		return g.one("let ", "const ") + g.target() + " = 1;"
	case 5:
		return "function " + g.name() + g.one("()", "(a)") + " " + g.body()
	case 6:
		return "(function " + g.name() + g.parameters() + " " + g.body() + ");"
	case 7:
		return "(" + g.parameters() + " => " + g.body() + ");"
	case 8:
		return "({m" + g.parameters() + " " + g.body() + ", set s(" + g.target() + ") " + g.body() + "});"
	case 9:
		return "for (" + g.one("let ", "var ") + g.target() + " of x) " + g.one("", "if (x) ") + "{ " + g.statements() + " }"
	case 10:
		return "for (" + g.one("let ", "var ") + g.name() + ";;) " + g.one("var "+g.name()+";", "{ "+g.statements()+" }")
	case 11:
		return "switch (x) { case 1: " + g.statements() + " default: " + g.statements() + " }"
	case 12:
		return "try { " + g.statements() + " } catch " + g.one("", "("+g.target()+") ") + "{ " + g.statements() + " } finally { " + g.statements() + " }"
	}
	return "{ " + g.statements() + " }"
}

// found is a declaration as the document describes it.
type found struct {
	at      int
	name    string
	lexical bool
	regions []*api.Node // to which it belongs
	params  *api.Node   // the function whose parameter it is, if it makes two parameters of one name conflict
}

// targets are the nodes whose names a target binds.
func targets(n *api.Node) []*api.Node {
	kids := []int{}
	switch n.Op {
	case api.NName:
		return []*api.Node{n}
	case api.NArrPat, api.NObjPat, api.NParams:
		for i := range n.Kids {
			kids = append(kids, i)
		}
	case api.NDefault, api.NRest:
		kids = []int{0}
	case api.NPatProp:
		kids = []int{1}
	}
	var l []*api.Node
	for _, i := range kids {
		l = append(l, targets(&n.Kids[i])...)
	}
	return l
}

// regionsOf are the regions among the nodes of a path, from the innermost to that of the function.
func regionsOf(path []*api.Node) []*api.Node {
	var l []*api.Node
	for i := len(path) - 1; i >= 0; i-- {
		switch n := path[i]; n.Op {
		case api.NProgram, api.NFunc:
			return append(l, n)
		case api.NBlock:
			if up := path[i-1].Op; up != api.NFunc && up != api.NCatch {
				l = append(l, n)
			}
		case api.NSwitch, api.NFor, api.NForIn, api.NForOf, api.NCatch:
			l = append(l, n)
		}
	}
	return l
}

// declarations are all declarations at and below n, in preorder; strict tells whether the code around n is strict.
func declarations(n *api.Node, path []*api.Node, strict bool) []found {
	var l []found
	strict = strict || Strict(*n)
	add := func(names []*api.Node, lexical bool, regions []*api.Node) {
		for _, k := range names {
			d := found{at: k.At, name: k.S, lexical: lexical, regions: regions}
			if lexical {
				d.regions = regions[:1]
			}
			if n.Op == api.NParams {
				f := path[len(path)-1]
				if strict || f.N&(api.FArrow|api.FMethod) != 0 || !cover.Simple(*n) {
					d.params = f
				}
			}
			l = append(l, d)
		}
	}
	around := regionsOf(path)
	switch n.Op {
	case api.NDecl:
		add(targets(&n.Kids[0]), path[len(path)-1].N != 0, around)
	case api.NParams:
		add(targets(n), false, around)
	case api.NCatch:
		add(targets(&n.Kids[0]), true, []*api.Node{n})
	case api.NFunc:
		if n.N&api.FDecl != 0 {
			up := path[len(path)-1]
			statement := up.Op == api.NProgram || up.Op == api.NBlock && path[len(path)-2].Op == api.NFunc
			add([]*api.Node{n}, !statement, around)
		}
	}
	path = append(slices.Clip(path), n)
	for i := range n.Kids {
		l = append(l, declarations(&n.Kids[i], path, strict)...)
	}
	return l
}

func (a found) conflicts(b found) bool {
	share := slices.ContainsFunc(a.regions, func(r *api.Node) bool { return slices.Contains(b.regions, r) })
	return a.name == b.name && (share && (a.lexical || b.lexical) || a.params != nil && a.params == b.params)
}

// TestConflicts holds Check against a search among all pairs of declarations.
func TestConflicts(t *testing.T) { // P8.2, item 6
	g := &grower{chance: 3}
	ended := map[api.Errno]int{}
	for range 6000 {
		s := g.statements()
		n := parsed(t, s)
		at, e := Check(n)
		ended[e]++
		if e != api.ErrAgain && e != api.OK && e != api.ErrStrict {
			t.Fatalf("%s: %d", s, e)
		}
		l := declarations(&n, nil, false)
		first := slices.IndexFunc(l, func(d found) bool {
			return slices.ContainsFunc(l, func(b found) bool { return b.at < d.at && d.conflicts(b) })
		})
		switch {
		case e == api.ErrStrict: // a head that is not simple, ahead of any conflict
		case first < 0 && e != api.OK, first >= 0 && (e != api.ErrAgain || at != l[first].at):
			t.Fatalf("%s: %d at %d; declaration %d of %v", s, e, at, first, l)
		}
	}
	if ended[api.OK] < 1000 || ended[api.ErrAgain] < 1000 {
		t.Errorf("%v", ended)
	}
}

// TestManyNames takes programs that declare very many names in one another's blocks.
func TestManyNames(t *testing.T) { // P8.2, by the rule R1
	var kids []api.Node
	for i := range 200000 {
		name := api.Node{Op: api.NName, S: "n" + strings.Repeat("x", i%3) + string(rune('a'+i%26)) + strings.Repeat("y", i%7) + string(rune('a'+i/26%26)) + string(rune('a'+i/676%26)) + string(rune('a'+i/17576))}
		kids = append(kids, api.Node{Op: api.NDecl, Kids: []api.Node{name}})
	}
	n := api.Node{Op: api.NVar, Kids: kids}
	for range 190 {
		n = api.Node{Op: api.NBlock, Kids: []api.Node{n}}
	}
	again := api.Node{Op: api.NVar, N: 1, Kids: []api.Node{{Op: api.NDecl, Kids: []api.Node{{Op: api.NName, At: 5, S: kids[77].Kids[0].S}}}}}
	if at, e := Check(api.Node{Op: api.NProgram, Kids: []api.Node{n, again}}); at != 5 || e != api.ErrAgain {
		t.Errorf("%d at %d", e, at)
	}
}
