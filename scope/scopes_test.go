package scope

import (
	"pantomime/api"
	"reflect"
	"slices"
	"strconv"
	"strings"
	"testing"
)

func TestScopes(t *testing.T) { // P10.1
	for _, x := range []struct{ s, want string }{
		{"", "program -1/0@0"},
		{"let x = 1; function f() { return x }", "program -1/0@0 x:let^0; func 0/1@11"},
		{"let a; const b = 1; var c; function d() {}", "program -1/0@0 a:let.1 b:const.2; func 0/1@27"},
		{"  let a", "program -1/0@0 a:let.1"},
		{"(function() {})", "program -1/0@0; func 0/1@1"},
		{"(function a() {})", "program -1/0@0; self 0/1@1 a:self.0; func 1/1@1"},
		{"(function* a(b) { let c })", "program -1/0@0; self 0/1@1 a:self.0; func 1/1@1 b:param.1 c:let.2"},
		{"(function a(a) { })", "program -1/0@0; self 0/1@1 a:self.0; func 1/1@1 a:param.1"},
		{"function a() {}", "program -1/0@0; func 0/1@0"},
		{"a => b", "program -1/0@0; func 0/1@0 a:param.0"},
		{"(a, [b, {c}], ...d) => e", "program -1/0@0; func 0/1@0 a:param.0 b:param.1 c:param.2 d:param.3"},
		{"({m(a) {}, get b() { var c }, set d(e) {}, *f() {}})", "program -1/0@0; func 0/1@2 a:param.0; func 0/2@11 c:var.0; func 0/3@30 e:param.0; func 0/4@43"},
		// Functions are numbered in preorder, and those in a head stand in the scope of their function.
		{"function a(b = function c() {}) { function d() {} } function e() {}", "program -1/0@0; func 0/1@0 b:param.0 d:func.1; self 1/2@15 c:self.0; func 2/2@15; func 1/3@34; func 0/4@52"},
		{"x => y => { let z }", "program -1/0@0; func 0/1@0 x:param.0; func 1/2@5 y:param.0 z:let.1"},
		{"({[a => 1]: b => 2})", "program -1/0@0; func 0/1@3 a:param.0; func 0/2@12 b:param.0"},
		// Blocks open a scope only if they declare something themselves.
		{"{ let a; { const b = 1 } { var c } {} }", "program -1/0@0; block 0/0@0 a:let.1; block 1/0@9 b:const.2"},
		{"{ { let a } }", "program -1/0@0; block 0/0@2 a:let.1"},
		{"{ function a() {} }", "program -1/0@0; block 0/0@0 a:func.1; func 1/1@2"},
		{"{ var a; for (let b;;) ; (function c() {}); x => x }", "program -1/0@0; loop 0/0@9 b:let.1; self 0/1@26 c:self.0; func 2/1@26; func 0/2@44 x:param.0"},
		{"{ let [] = a }", "program -1/0@0"},
		{"(function() { { let a } })", "program -1/0@0; func 0/1@1; block 1/1@14 a:let.0"},
		{"() => { const a = 1 }", "program -1/0@0; func 0/1@0 a:const.0"},
		{"if (a) { let b } else { let c }", "program -1/0@0; block 0/0@7 b:let.1; block 0/0@22 c:let.2"},
		{"try { let a } catch { let b } finally { let c }", "program -1/0@0; block 0/0@4 a:let.1; block 0/0@20 b:let.2; block 0/0@38 c:let.3"},
		// Switches
		{"switch (a) { case 1: let b; case 2: function c() {} default: const d = 1; var e; { let f } }", "program -1/0@0; block 0/0@0 b:let.1 c:func.2 d:const.3; func 1/1@36; block 1/0@81 f:let.4"},
		{"switch (a) { case 1: var b; { let c } }", "program -1/0@0; block 0/0@28 c:let.1"},
		{"switch (() => 1) { case () => 2: let a }", "program -1/0@0; block 0/0@0 a:let.1; func 0/1@8; func 1/2@24"},
		// Loops
		{"for (let a, b = 1;;) { let c }", "program -1/0@0; loop 0/0@0 a:let.1 b:let.2; block 1/0@21 c:let.3"},
		{"for (const a of () => 1) ;", "program -1/0@0; loop 0/0@0 a:const.1; func 1/1@16"},
		{"for (let [a, {b}] in c) ;", "program -1/0@0; loop 0/0@0 a:let.1 b:let.2"},
		{"for (var a;;) ; for (b of c) ; for (var d in e) ; for (;;) ; for (let [] of f) ; for (let {} = g;;) ; for (h;;) ;", "program -1/0@0"},
		{"for (let [] = 1, a;;) ;", "program -1/0@0; loop 0/0@0 a:let.1"},
		{"while (a) { let b } do { let c } while (d)", "program -1/0@0; block 0/0@10 b:let.1; block 0/0@23 c:let.2"},
		// Catch
		{"try {} catch (a) {}", "program -1/0@0; catch 0/0@7 a:catch.1"},
		{"try {} catch ({a, b: [c]}) { let d }", "program -1/0@0; catch 0/0@7 a:catch.1 c:catch.2; block 1/0@27 d:let.3"},
		{"try {} catch ([]) {} try {} catch {} finally {}", "program -1/0@0"},
		{"try {} catch ([a = () => 1]) {}", "program -1/0@0; catch 0/0@7 a:catch.1; func 1/1@19"},
	} {
		if got := told(scopesOf(t, valid(t, x.s))); got != x.want {
			t.Errorf("%q:\n got %s\nwant %s", x.s, got, x.want)
		}
	}
}

// names writes the bindings of the scope at an index as told does.
func names(l []api.Scope, index int) string {
	_, s, _ := strings.Cut(told(l[index:index+1]), " ")
	_, s, _ = strings.Cut(s, " ")
	return s
}

func TestNames(t *testing.T) { // P10.1: order, kinds and slots of bindings
	for _, x := range []struct {
		s     string
		index int
		want  string
	}{
		{"let [a, {b, c: [d = e]}, ...f] = g, {h = i, ...j} = k", 0, "a:let.1 b:let.2 d:let.3 f:let.4 h:let.5 j:let.6"},
		{"const [a] = b, c = 1; let d", 0, "a:const.1 c:const.2 d:let.3"},
		{"var a; function b() {} { let c } for (let d;;) ; try {} catch (e) {} let f", 0, "f:let.1"},
		{"function f(a, b) { var c; let d; function e() {} { var g } const h = 1 }", 1, "a:param.0 b:param.1 c:var.2 d:let.3 e:func.4 g:var.5 h:const.6"},
		// Each name once, where it is declared first; a function among its declarations tells the kind.
		{"function f(a, b, a) { var b, c, c; { var a } }", 1, "a:param.0 b:param.1 c:var.2"},
		{"function f(a, b) { var a; function b() {} var c; function c() {} function d() {} var d; function d() {} }", 1, "a:param.0 b:func.1 c:func.2 d:func.3"},
		{"(function() { { var a } let b; function a() {} })", 1, "a:func.0 b:let.1"},
		{"{ function a() {} let b; function* c() {} }", 1, "a:func.1 b:let.2 c:func.3"},
		{"(function() { for (var a of b) ; if (c) var d; try { var e } catch (f) { var g } finally { var h } switch (i) { case 1: var j; default: { var k } } l: var m })", 1, "a:var.0 d:var.1 e:var.2 g:var.3 h:var.4 j:var.5 k:var.6 m:var.7"},
		{"() => { while (a) { { var b } } do var c; while (d); for (var e;;) for (var f in g) ; for (var [h, {i = 1}] of j) ; for (let k;;) var l; if (m) ; else var n }", 1, "b:var.0 c:var.1 e:var.2 f:var.3 h:var.4 i:var.5 l:var.6 n:var.7"},
		// What an inner function declares is its own.
		{"function f(a = () => { var b }) { (function(c) { var d; let e }); ({m(g) { var h }}); function i() { var j } x => { { var y } } }", 1, "a:param.0 i:func.1"},
		{"function f({a, b: c, [d]: e, ...g}, [h, , i = j] = k, l = m, ...[n]) {}", 1, "a:param.0 c:param.1 e:param.2 g:param.3 h:param.4 i:param.5 l:param.6 n:param.7"},
		{"try {} catch ({a, b: [c = d], ...e}) { var f }", 1, "a:catch.1 c:catch.2 e:catch.3"},
		{"switch (a) { case 1: let b; { let c } case 2: function d() {} var e; default: let {f, ...g} = h }", 1, "b:let.1 d:func.2 f:let.3 g:let.4"},
		{"a.b = 1; [c, d.e] = f; ({g: h} = i); for (j of k) ; for ([l] in m) ; n++; o: ; var p", 0, ""},
		// Slots: those of contexts count in each scope, those of local variables in each function.
		{"let a, b, c, d; () => b + d", 0, "a:let.1 b:let^0 c:let.2 d:let^1"},
		{"let a; { let b; () => [a, b] }", 1, "b:let^0"},
		{"function f(a, b) { { let c, d; () => a + d } let e }", 1, "a:param^0 b:param.0 e:let.1"},
		{"function f(a, b) { { let c, d; () => a + d } let e }", 2, "c:let.2 d:let^0"},
		{"function f() { { let a } (function() { let b; { let c } }); { let d } }", 4, "c:let.1"},
		{"function f() { { let a } (function() { let b; { let c } }); { let d } }", 5, "d:let.1"},
		{"function f() { let a } let b; { let c } function g() { let d; { let e } }", 0, "b:let.1"},
		{"function f() { let a } let b; { let c } function g() { let d; { let e } }", 2, "c:let.2"},
		{"function f() { let a } let b; { let c } function g() { let d; { let e } }", 4, "e:let.1"},
	} {
		if got := names(scopesOf(t, valid(t, x.s)), x.index); got != x.want {
			t.Errorf("%q, scope %d:\n got %s\nwant %s", x.s, x.index, got, x.want)
		}
	}
}

func TestCaptured(t *testing.T) { // P10.1: the names that are captured
	for _, x := range []struct{ s, want string }{
		{"let a, b; a = b", ""}, {"let a; { a; { let b; b } } for (;;) a", ""},
		{"let a; function f() { a }", "a"}, {"let a; () => a", "a"}, {"let a; (b = a) => b", "a"}, {"let a; ({m() { a }})", "a"}, {"let a; ({get b() { return a }})", "a"},
		{"let a; ({[a]: 1, [a]() {}})", ""}, // a computed key belongs to the function around it
		{"let a; ({m([b, {[a]: c}]) {}})", "a"}, {"let a; () => () => { { a } }", "a"}, {"let a; () => ({a})", "a"}, {"let a; () => { a = 1 }", "a"}, {"let a; () => { [a] = b }", "a"}, {"let a; () => { for (a of b) ; }", "a"},
		{"let a; () => ({a: 1})", ""}, {"let a; () => b.a", ""}, {"let a; () => { a: ; }", ""}, {"let a; (a) => a", ""}, {"let a; () => { var a; a }", ""}, {"let a; () => { a; { let a } }", "a"}, {"let a; () => { { let a; a } }", ""}, {"let a; (function a() { a })", ""},
		{"(function f() { f })", ""}, {"(function f() { () => f })", "f"}, {"(function f(a = () => f) { })", "f"}, {"(function f() { (function f() { () => f }) })", "f"}, {"(function f() { var f; () => f })", "f"},
		{"function f() { f }", ""}, {"{ function f() { f } }", "f"}, {"(function() { function f() { f } })", "f"}, {"(function() { function f() {} f() })", ""},
		{"function f(a, b) { () => a }", "a"}, {"function f(a, b = () => a) { b }", "a"}, {"function f(a) { var b; { var c; () => b + c } }", "b c"}, {"function f(a, b) { function b() { a } () => b }", "a b"},
		{"try {} catch (a) { () => a }", "a"}, {"for (let a of b) () => a", "a"}, {"for (let a, b;;) c(() => a)", "a"}, {"for (let a of () => a) ;", "a"}, {"switch (a) { case 1: let b, c; case () => b: ; }", "b"},
		{"{ let a, b, c; { () => c + a } }", "a c"},
	} {
		var got []string
		for _, s := range scopesOf(t, valid(t, x.s)) {
			for _, b := range s.Names {
				if b.Held {
					got = append(got, b.Name)
				}
			}
		}
		if strings.Join(got, " ") != x.want {
			t.Errorf("%q: %v, want %s", x.s, got, x.want)
		}
	}
}

// many is a program with a number of bindings, spread over scopes of all kinds.
func many(count int) string {
	var b strings.Builder
	for i := range count {
		v := "v" + strconv.Itoa(i)
		b.WriteString([]string{"let " + v + ";", "{let " + v + "}", "for(let " + v + ";;);", "try{}catch(" + v + "){}", "(" + v + "=>1);", "(function " + v + "(){});", "(()=>{var " + v + "});"}[i%7])
		b.WriteString([]string{"var " + v + "w;", "function " + v + "f(){}", ";"}[i%3])
	}
	return b.String()
}

func TestTooManyNames(t *testing.T) { // P10.1, P10.2
	list := func(count int) api.Node {
		n := api.Node{Op: api.NVar, N: 1}
		for i := range count {
			n.Kids = append(n.Kids, api.Node{Op: api.NDecl, Kids: []api.Node{{Op: api.NName, S: "v" + strconv.Itoa(i)}}})
		}
		return n
	}
	one := list(1)
	block := api.Node{Op: api.NBlock, Kids: []api.Node{one}}
	vars := list(5000)
	vars.N = 0
	for _, x := range []struct {
		n api.Node
		e api.Errno
	}{
		{parsed(t, many(1000)), api.OK},
		{api.Node{Op: api.NProgram, Kids: []api.Node{list(api.MaxNames)}}, api.OK},
		{api.Node{Op: api.NProgram, Kids: []api.Node{list(api.MaxNames + 1)}}, api.ErrLong},
		{api.Node{Op: api.NProgram, Kids: []api.Node{list(api.MaxNames - 1), block}}, api.OK},
		{api.Node{Op: api.NProgram, Kids: []api.Node{list(api.MaxNames - 1), block, block}}, api.ErrLong},
		{api.Node{Op: api.NProgram, Kids: []api.Node{vars}}, api.OK}, // names of the program alone are no bindings
	} {
		l, e := Of(x.n)
		u, f := Uses(x.n)
		if e != x.e || f != x.e || e != api.OK && (l != nil || u != nil) {
			t.Errorf("%d %d, want %d; %d scopes, %d references", e, f, x.e, len(l), len(u))
		}
		if e == api.OK && !Right(l) {
			t.Error("not consistent")
		}
	}
	if l := scopesOf(t, parsed(t, many(1000))); len(l) != 1+333+143*6+142 {
		t.Errorf("%d scopes", len(l))
	}
}

func TestWrongTrees(t *testing.T) { // P10.1, P10.2
	name := api.Node{Op: api.NName, S: "a"}
	deep := api.Node{Op: api.NEmpty}
	for range api.MaxDepth {
		deep = api.Node{Op: api.NBlock, Kids: []api.Node{deep}}
	}
	for i, n := range []api.Node{
		{}, name, {Op: api.NBlock}, {Op: api.NFunc, Kids: []api.Node{{Op: api.NParams}, {Op: api.NBlock}}}, {Op: api.NProgram, At: -1}, {Op: api.NProgram, N: 2}, {Op: api.NProgram, S: "a"},
		{Op: api.NProgram, Kids: []api.Node{name}}, {Op: api.NProgram, Kids: []api.Node{{Op: api.NProgram}}}, {Op: api.NProgram, Kids: []api.Node{{Op: api.NFor}}}, {Op: api.NProgram, Kids: []api.Node{{Op: api.NFunc, N: api.FDecl, S: "f"}}},
		{Op: api.NProgram, Kids: []api.Node{{Op: api.NVar, N: 1}}}, {Op: api.NProgram, Kids: []api.Node{{Op: api.NExpr, Kids: []api.Node{{Op: api.NObject, Kids: []api.Node{{Op: api.NProp, N: api.PropShort}}}}}}},
		{Op: api.NProgram, Kids: []api.Node{deep}}, {Op: api.PBlock},
	} {
		l, e := Of(n)
		u, f := Uses(n)
		if e != api.ErrArg || f != api.ErrArg || l != nil || u != nil {
			t.Errorf("%d: %d %d", i, e, f)
		}
	}
	if l, e := Of(api.Node{Op: api.NProgram, At: 7, N: 1}); e != api.OK || told(l) != "program -1/0@7" {
		t.Errorf("an empty program: %d %s", e, told(l))
	}
}

func TestAnswersAreNew(t *testing.T) { // P10.1, P10.2: nothing is kept or shared
	n := valid(t, "let a, b; function f(c) { var d; { let e; () => a + e } }")
	before := tellAll(t, n)
	l, u := scopesOf(t, n), usesOf(t, n)
	for i := range l {
		for k := range l[i].Names {
			l[i].Names[k] = api.Bind{Name: "z", Kind: -1, Held: true, Slot: 99}
		}
		l[i].Names = append(l[i].Names, api.Bind{Name: "y"})
		l[i].Up = 50
	}
	for i := range u {
		u[i] = api.Use{Name: "z"}
	}
	if got := tellAll(t, n); got != before {
		t.Errorf("got %s\nwant %s", got, before)
	}
	for i, s := range l {
		if i > 0 && slices.ContainsFunc(s.Names, func(b api.Bind) bool { return b.Name != "z" && b.Name != "y" }) {
			t.Errorf("scope %d shares memory", i)
		}
	}
	copied := parsed(t, "let a, b; function f(c) { var d; { let e; () => a + e } }")
	if !reflect.DeepEqual(n, copied) {
		t.Error("the argument changed")
	}
}

// tellAll writes the scopes and the references of a program.
func tellAll(t *testing.T, n api.Node) string {
	t.Helper()
	return told(scopesOf(t, n)) + " | " + toldUses(usesOf(t, n))
}
