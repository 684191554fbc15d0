package scope

import (
	"pantomime/api"
	"strings"
	"testing"
)

func TestUses(t *testing.T) { // P10.2
	for _, x := range []struct{ s, want string }{
		{"", ""},
		{"let x = 1; function f() { return x }", "x@4/0 let^0.0; x@33/1 let^0.0!"},
		{"a; var b; function c() { d }", "a@0/0 *; b@7/0 *; d@25/1 *"},
		{"const a = 1; a", "a@6/0 const.1; a@13/0 const.1"},
		{"b = a.b[c].d", "b@0/0 *; a@4/0 *; c@8/0 *"},
		{"a: for (;;) break a; 'b'; ({c: 1, 'd': 2, e() {}, get f() {}}); this.g", ""},
		{"let a; ({a, b: a, c})", "a@4/0 let.1; a@9/0 let.1; a@15/0 let.1; c@18/0 *"},
		{"let {a, b: c, [d]: e = f, ...g} = h", "a@5/0 let.1; c@11/0 let.2; d@15/0 *; e@19/0 let.3; f@23/0 *; g@29/0 let.4; h@34/0 *"},
		{"[a, b.c] = d", "a@1/0 *; b@4/0 *; d@11/0 *"},
		{"`${a}${b}`", "a@3/0 *; b@7/0 *"},
		// A reference stands in the innermost scope around it, and its binding anywhere outwards.
		{"let a; { let b; { a; b } }", "a@4/0 let.1; b@13/1 let.2; a@18/1 let.1; b@21/1 let.2"},
		{"let a; { let a; a } a", "a@4/0 let.1; a@13/1 let.2; a@16/1 let.2; a@20/0 let.1"},
		{"function f(a) { var b; { let c; var d; a } return b }", "a@11/1 param.0; b@20/1 var.1; c@29/2 let.3; d@36/2 var.2; a@39/2 param.0; b@50/1 var.1"},
		{"function f() {} f", "f@16/0 *"},
		{"{ f; function f() {} }", "f@2/1 func.1"},
		{"(function f(a = f, b = a) { f })", "a@12/2 param.1; f@16/2 self.0; b@19/2 param.2; a@23/2 param.1; f@28/2 self.0"},
		{"try {} catch (a) { a; let b; a } a", "a@14/1 catch.1; a@19/2 catch.1; b@26/2 let.2; a@29/2 catch.1; a@33/0 *"},
		{"for (let a of b) { a; let c }", "a@9/1 let.1; b@14/1 *; a@19/2 let.1; c@26/2 let.2"},
		{"switch (a) { case b: let a; a }", "a@8/0 *; b@18/1 *; a@25/1 let.1; a@28/1 let.1"},
		{"let a; switch (a) { case a: let b }", "a@4/0 let.1; a@15/0 let.1; a@25/1 let.1; b@32/1 let.2"},
		{"for (var a of a) a", "a@9/0 *; a@14/0 *; a@17/0 *"},
		{"({m(a) { a }, [b]: c, get d() { return e }})", "a@4/1 param.0; a@9/1 param.0; b@15/0 *; c@19/0 *; e@39/2 *"},
		// Hops: the contexts on the way outwards.
		{"let a; () => a", "a@4/0 let^0.0; a@13/1 let^0.0!"},
		{"let a; () => { let b; a; () => b }", "a@4/0 let^0.0; b@19/1 let^0.0; a@22/1 let^1.0!; b@31/2 let^0.0!"},
		{"let a; { let b; () => { b; { let c; () => [a, b, c] } } }", "a@4/0 let^0.0; b@13/1 let^0.0; b@24/2 let^0.0!; c@33/3 let^0.0; a@43/4 let^2.0!; b@46/4 let^1.0!; c@49/4 let^0.0!"},
		{"let a, b, c; { let d; () => b } () => c", "a@4/0 let.1; b@7/0 let^0.0; c@10/0 let^0.1; d@19/1 let.2; b@28/2 let^0.0!; c@38/3 let^0.1!"},
		{"(function f(a) { var b; () => f(a) })", "a@12/2 param^0.0; b@21/2 var.0; f@30/3 self^1.0; a@32/3 param^0.0"},
		{"for (let a of b) { let c; d(() => a, () => c) }", "a@9/1 let^0.0; b@14/1 *; c@23/2 let^0.0; d@26/2 *; a@34/3 let^1.0!; c@43/4 let^0.0!"},
		{"try {} catch (a) { var b; a; () => a }", "a@14/1 catch^0.0; b@23/1 *; a@26/1 catch^0.0; a@35/2 catch^0.0"},
	} {
		if got := toldUses(usesOf(t, valid(t, x.s))); got != x.want {
			t.Errorf("%q:\n got %s\nwant %s", x.s, got, x.want)
		}
	}
}

// mark stands in a source of these tests ahead of each reference that needs a check.
const mark = "¦"

func TestChecks(t *testing.T) { // P10.2
	for _, s := range []string{
		// Declared names, and what comes behind them
		"let a; a; a = 1; a++; [a] = [a]; ({a}); delete a", "const a = 1; a; { a; { a } }", "let a = 1, b = a; const c = b", "let [a, {b}] = c; a; b", "let a; if (a) a; else a; while (a) a; for (;a;) a",
		"¦a; let a; a", "let a = ¦a", "const a = [¦a, b]", "let a = ¦b, b = a", "typeof ¦a; let a", "¦a = 1; let a", "¦a++; let a", "¦a += 1; const a = 1", "[¦a] = b; let a", "({¦a}); let a; ({a})", "({b: ¦a} = c); let a", "for (¦a of b) ; let a", "delete ¦a; let a", "`${¦a}`; let a; `${a}`",
		// In the same declaration
		"let [a = ¦a] = b", "let [a, b = ¦a] = c; b = a", "let {[¦a]: a} = b", "const {a, [¦a]: b = ¦b, ...c} = [¦c]; [a, b, c]", "let [a] = ¦a", "let a = (¦a, ¦a = 1)", "let [a] = [1], [b = a] = [¦b]",
		// In other functions
		"let a; () => ¦a", "let a; function f(b = ¦a) { ¦a = 1; { ¦a } }", "let a; (function() { () => ¦a })", "let a; ({m() { ¦a }, get b() { ¦a }, [a]: 1})", "() => ¦a; let a", "let a = () => ¦a; a", "() => { let a; a; () => ¦a }", "let a; (a) => a", "let a; () => { let a; a }", "let a; () => ({¦a})",
		// Other kinds of bindings
		"a; var a; a; () => a", "() => { a; var a = a; b; function b() { b } }", "{ a; function a() {} a }", "(function f(a = b, b = f) { f; a; () => f + a })", "try {} catch ({a, b = a}) { a; () => a }", "(function(a) { a; var a; a })",
		"function f(a = ¦b) { let b; a + b }", "function f(a = () => ¦b) { let b }", "(a, b = a) => a",
		// Blocks and functions
		"{ ¦a; let a; a } a", "let a; { ¦a; let a; a } a", "{ { ¦a } let a; { a } }", "do { ¦a; let a; a } while (a)", "function f() { ¦a; let a; a } a", "() => { if (¦a) ¦a; const a = 1; if (a) a }", "{ let a; a } { ¦a; let a }", "try { ¦a; let a } catch { a; let b = a } finally { ¦a; let a }",
		"while (a) { ¦b; let b; b }",
		// Loops
		"for (let a;;) a", "for (let a = ¦a, b = a; a; a) { a }", "for (let a = ¦b, b;;) ;", "for (const [a, b = ¦a] = [¦b]; a; b) a",
		"for (let a of ¦a) a", "for (const a in ¦a) { a }", "for (let a of [¦a, () => ¦a, {b: ¦a}]) a", "for (let [a = ¦a, b = ¦a] of c) a + b", "for (let {[¦a]: a} in [¦a]) a", "for (let a of b) () => ¦a", "for (let a of b) for (let c of a) c", "for (let a of b) for (let a of ¦a) a", "for (let a of b) for (a of a) a", "let a; for (a of a) a", "let a; for (let b of a) a", "for (a of b) { ¦a; let a }", "for (var a of a) a", "() => { for (let a of ¦a) a }", "let a; for (let a of ¦a) a; a", "for (let a in (b, ¦a)) for (let c in a) ;",
		// Where the head declares nothing that belongs to the loop, a name is taken as ever.
		"{ let a; for (let [] of a) a }", "{ let a; for (let [] = a, b = a;;) ; }", "{ let a, b; for (b in a) a; for (var c of b) ; }",
		// Switches
		"switch (a) { case 1: let b; b; { b } case 2: ¦b; { ¦b } default: ¦b }", "switch (b) { case ¦b: ¦b; let b; b; { b } case ¦b: }", "switch (a) { default: let b; b; case ¦b: ¦b = 1 }", "switch (a) { case 1: let b = ¦b, c = b; case 2: const d = ¦c; d }", "let b; switch (b) { case b: let c = b; case b: b }", "switch (a) { case 1: let b; for (;;) b; () => ¦b; try { b } catch { b } }",
		"switch (a) { case 1: let b; switch (b) { case b: b; let d; d; case b: b; ¦d } b; case 2: ¦b; switch (¦b) { case ¦b: } }", "switch (a) { case ¦b: { ¦b; for (let c of ¦b) c } default: ¦b; const b = 1; b; case 3: ¦b }", "switch (a) { case 1: { let b; b } case 2: b }", "switch (a) { case 1: let b; switch (c) { case 2: let b; b; case 3: ¦b } b }", "{ let a; switch (a) { case 1: a; case a: a } a }", "switch (a) { case 1: let b; case 2: function c() { ¦b } c }", "() => { switch (a) { case 1: let b; b; case 2: ¦b } let c; switch (c) { case c: c } }", "switch (a) { case 1: b; case 2: var b; b }", "switch (a) { case 1: let [b, c = ¦b] = ¦b; b + c; case 2: ¦c }",
	} {
		n := valid(t, strings.ReplaceAll(s, mark, ""))
		want := map[int]bool{}
		parts := strings.Split(s, mark)
		at := 0
		for _, part := range parts[:len(parts)-1] {
			at += len(part)
			want[at] = true
		}
		found := 0
		for _, u := range usesOf(t, n) {
			if u.Check != want[u.At] {
				t.Errorf("%q: %s at %d: %v", s, u.Name, u.At, u.Check)
			}
			if u.Check {
				found++
			}
			if u.Check && u.Kind != api.BLet && u.Kind != api.BConst {
				t.Errorf("%q: %s at %d is of kind %d", s, u.Name, u.At, u.Kind)
			}
		}
		if found != len(want) {
			t.Errorf("%q: %d checks", s, found)
		}
	}
}

func TestGlobalsAreBare(t *testing.T) { // P10.2: a property of the global object has no more than a place and a name
	for _, u := range usesOf(t, valid(t, "let b; { a; () => { let c; () => c + a; a } }")) {
		if u.Name == "a" && u != (api.Use{At: u.At, Scope: u.Scope, Where: api.AtGlobal, Name: "a"}) {
			t.Errorf("%+v", u)
		}
		if u.Where == api.AtLocal && u.Hops != 0 {
			t.Errorf("%+v", u)
		}
	}
}
