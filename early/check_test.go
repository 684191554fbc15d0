package early

import (
	"pantomime/api"
	"strings"
	"testing"
)

// always and strict are the reserved words, as the document has them.
const (
	always = "break case catch class const continue debugger default delete do else enum export extends false finally for function if import in instanceof new null return super switch this throw true try typeof var void while with"
	strict = "implements interface package private protected public static yield"
)

func TestExamples(t *testing.T) { // P8.2
	wrong(t, api.ErrAgain, "let x; var ¦x", "let x; { var ¦x }", "function f(a, ¦a) { 'use strict' }")
	right(t, "function f(a, a) {}", "for (const x of y) ;")
	wrong(t, api.ErrConst, "const ¦x;")
}

func TestNoProgram(t *testing.T) { // P8.2
	for _, s := range []string{"(Expr (Name =a))", "(Block)", "(0)", "(Func (Params) (Block))", "(Program (Name =a))", "(Program 2)", "(Program =a)", "(Program (Program))", "(Program (Expr))", "(Program (Var (Decl (Num))))", "(Program (Return) (Func (Params) (Block)))", "(Program (Var 3 (Decl (Name =a))))", "(Program (Expr (Dot 1 =a (Name =a))))", "(Program (Expr (Prop 3 (Text =a) (Num))))"} {
		if at, e := Check(grown(t, s)); at != 0 || e != api.ErrArg {
			t.Errorf("%s: %d at %d", s, e, at)
		}
	}
	for depth, want := range map[int]api.Errno{197: api.ErrBreak, 198: api.ErrBreak, 199: api.ErrArg, 60000: api.ErrArg} {
		n := api.Node{Op: api.NBreak, At: depth}
		for range depth {
			n = api.Node{Op: api.NBlock, Kids: []api.Node{n}}
		}
		at, e := Check(api.Node{Op: api.NProgram, Kids: []api.Node{n}})
		if e != want || e == api.ErrBreak && at != depth || e == api.ErrArg && at != 0 {
			t.Errorf("%d blocks: %d at %d", depth, e, at)
		}
	}
	if at, e := Check(api.Node{Op: api.NProgram, At: -1}); at != 0 || e != api.ErrArg {
		t.Errorf("a place below 0: %d at %d", e, at)
	}
}

// TestPlaces checks that the error's place is the At of its node, wherever the node stands.
func TestPlaces(t *testing.T) { // P8.2
	n := api.Node{Op: api.NProgram, At: 7, Kids: []api.Node{{Op: api.NEmpty, At: 30}, {Op: api.NBreak, At: 5}, {Op: api.NReturn, At: 1}}}
	want(t, "break, then return", n, 5, api.ErrBreak)
	want(t, "nothing", api.Node{Op: api.NProgram, At: 7}, 0, api.OK)
}

func TestReservedWords(t *testing.T) { // P8.2, item 1
	for _, w := range strings.Fields(always + " let") {
		wrongTree(t, api.ErrSyntax,
			"(Program (Expr ¦(Name ="+w+")))",
			"(Program (Expr (Object (Prop 3 ¦(Text ="+w+")))))",
			"(Program ¦(Label ="+w+" (Empty)))",
			"(Program ¦(Break ="+w+"))",
			"(Program ¦(Continue ="+w+"))",
			"(Program ¦(Func 1 ="+w+" (Params) (Block)))",
			"(Program (Expr ¦(Func 4 ="+w+" (Params) (Block))))",
			"(Program (Expr (Assign == (ObjPat (PatProp (Text =a) ¦(Name ="+w+"))) (Num))))",
			"(Program (Var (Decl ¦(Name ="+w+"))))",
			"(Program (Expr (Func 130 (Params ¦(Name ="+w+")) (Num))))",
		)
		rightTree(t,
			"(Program (Expr (Dot ="+w+" (Name =a))))",
			"(Program (Expr (Text ="+w+")))",
			"(Program (Expr (Object (Prop (Text ="+w+") (Num)))))",
			"(Program (Expr (Template (Text ="+w+"))))",
			"(Program (Expr (Object (Prop 5 (Text ="+w+") (Func 8 (Params) (Block))))))",
			"(Program (Expr (Assign == (ObjPat (PatProp (Text ="+w+") (Name =a))) (Num))))",
			"(Program (Expr (Object (Prop M1 (Text ="+w+") (Num)))))",
		)
	}
	wrong(t, api.ErrSyntax, "¦break let", "while (a) ¦continue let", "'use strict'; ¦break let")
	right(t, "lets; breaks; ({lets, Let}); of; get; set; async; await; undefined; function of() {}")
}

func TestMisplacedDeclarations(t *testing.T) { // P8.2, item 1
	forms := []string{"(If (Num) #)", "(If (Num) # (Empty))", "(If (Num) (Empty) #)", "(For (Empty) (Empty) (Empty) #)", "(ForIn (Name =a) (Num) #)", "(ForOf (Name =a) (Num) #)", "(While (Num) #)", "(Do # (Num))", "(Label =a #)"}
	for _, form := range forms {
		with := func(s string) string { return "(Program " + strings.ReplaceAll(form, "#", s) + ")" }
		for _, s := range []string{"(Func 1 =f (Params) (Block))", "(Func 5 =f (Params) (Block))", "(Var 1 (Decl (Name =a) (Num)))", "(Var 2 (Decl (Name =a) (Num)))", "(Var 1 (Decl (ArrPat)))"} {
			wrongTree(t, api.ErrSyntax, with(mark+s), "(Program (Func 1 =f (Params) (Block "+strings.TrimPrefix(with(mark+s), "(Program ")+"))")
			rightTree(t, with("(Block "+strings.Replace(s, "(ArrPat)", "(ArrPat) (Num)", 1)+")"))
		}
		rightTree(t, with("(Var (Decl (Name =a) (Num)))"), with("(Expr (Func =f (Params) (Block)))"), with("(Expr (Func (Params) (Block)))"))
	}
	right(t, "for (let a;;) ; for (let a of b) ; for (const a in b) ; for (const a = 1;;) ;", "{ function f() {} let a; const b = 1 } switch (a) { case b: function f() {} let a; default: const c = 1 }")
}

func TestYield(t *testing.T) { // P8.2, item 2
	wrongTree(t, api.ErrYield,
		"(Program (Expr ¦(Yield)))",
		"(Program (Expr ¦(Yield 1 (Num))))",
		"(Program (Func 1 =f (Params) (Block (Expr ¦(Yield)))))",
		"(Program (Func 5 =f (Params) (Block (Expr (Func (Params) (Block (Expr ¦(Yield))))))))",
		"(Program (Func 5 =f (Params) (Block (Expr (Func 130 (Params) ¦(Yield))))))",
		"(Program (Func 5 =f (Params) (Block (Expr (Func (Params (Default (Name =a) ¦(Yield))) (Block))))))",
		"(Program (Func 5 =f (Params (Default (Name =a) (Array ¦(Yield (Name =b))))) (Block)))",
		"(Program (Func 5 =f (Params (ObjPat (PatProp M1 ¦(Yield) (Name =a)))) (Block)))",
		"(Program (Expr (Object (Prop 1 (Text =a) (Func 16 (Params) (Block (Expr ¦(Yield))))))))",
		"(Program (Func 5 =f (Params ¦(Name =yield)) (Block)))",
		"(Program (Func 5 =f (Params) (Block (Expr ¦(Name =yield)))))",
		"(Program (Func 5 =f (Params) (Block (Var (Decl ¦(Name =yield))))))",
		"(Program (Func 5 =f (Params) (Block (Expr (Object (Prop 3 ¦(Text =yield)))))))",
		"(Program (Expr (Object (Prop 5 (Text =a) (Func 12 (Params) (Block (Expr ¦(Name =yield))))))))",
		"(Program (Expr (Text =use_strict)) (Func 5 =f (Params) (Block (Expr ¦(Name =yield)))))",
	)
	wrong(t, api.ErrYield, "function* f(a = ¦yield) {}", "function* f(a = b, [c] = (¦yield* d)) {}", "({*f(a = ¦yield) {}})", "function* f(a = {b: [¦yield]}) {}")
	right(t,
		"function* f() { yield; yield a; yield* b; (function*() { yield }); ({*g() { yield }}) }",
		"function* f() { ({[yield]: 1, [yield]() {}}); function g(yield) { yield; ({yield}) } (yield) => yield }",
		"function* f(a = function*() { yield }) {}",
		"function* yield() {} function* f() { function yield() {} yield: break yield; ({yield: 1}); a.yield; 'yield' }",
		"yield; ({yield}); function yield(yield) { yield: yield }",
	)
}

func TestStrictWords(t *testing.T) { // P8.2, item 3
	for _, w := range strings.Fields(strict) {
		sloppy := w + "; ({" + w + "}); " + w + ": while (a) { break " + w + "; continue " + w + " } function " + w + "(" + w + ") { (function " + w + "() {}) }"
		right(t, sloppy, "{ 'use strict' } "+sloppy, "function f() { 'use strict' } "+sloppy, sloppy+" 'use strict'")
		right(t, "'use strict'; a."+w+"; ({"+w+": 1, "+w+"() {}, get "+w+"() {}}); var {"+w+": a} = b; '"+w+"'; `"+w+"`")
		for _, s := range []string{"¦@", "({¦@})", "¦@: ;", "¦break @", "while (a) ¦continue @", "¦function @() {}", "(¦function @() {})", "(¦function* @() {})", "var ¦@", "[¦@] = a", "(¦@) => 1", "a.b(¦@)", "¦@ = 1", "¦@++", "({a: ¦@} = b)", "for (¦@ of a) ;", "try {} catch (¦@) {}", "var {a = ¦@} = b", "typeof ¦@"} {
			s = strings.ReplaceAll(s, "@", w)
			wrong(t, api.ErrStrict, "'use strict'; "+s, "function f() { 'use strict'; "+s+" }", "(a) => { 'use strict'; { "+s+" } }", "'use strict'; function f() { "+s+" }", "'a'; 'use strict'; ({get a() { "+s+" }})")
		}
		wrong(t, api.ErrStrict, "¦function "+w+"() { 'use strict' }", "(¦function "+w+"() { 'use strict' })", "function f(¦"+w+") { 'use strict' }", "(¦"+w+") => { 'use strict' }", "({m(¦"+w+") { 'use strict' }})")
	}
}

func TestStrictDelete(t *testing.T) { // P8.2, item 3
	wrong(t, api.ErrStrict, "'use strict'; ¦delete a", "'use strict'; ¦delete (a)", "'use strict'; !¦delete a", "function f() { 'use strict'; ¦delete a }", "'use strict'; function f(b = ¦delete a) {}", "'use strict'; (a) => ¦delete a")
	right(t, "delete a", "'use strict'; delete a.b; delete a[b]; delete a?.b; delete a(); delete 1; typeof a; void a; -a", "function f() { 'use strict' } delete a", "if (a) 'use strict'; delete a")
}

func TestStrictParameters(t *testing.T) { // P8.2, item 3
	for _, head := range []string{"(a = 1)", "([a])", "({a})", "(...a)", "(a, [b])", "(a, b = 1)", "(a, ...b)"} {
		wrong(t, api.ErrStrict, "¦function f"+head+" { 'use strict' }", "(¦function"+head+" { 'use strict' })", "(¦function* f"+head+" { 'a'; 'use strict' })", "¦"+head+" => { 'use strict' }", "({¦m"+head+" { 'use strict' }})", "'use strict'; ¦function f"+head+" { 'use strict' }", "(function() { 'use strict'; ¦"+head+" => { ('use strict') } })")
		right(t, "'use strict'; function f"+head+" {} ("+head+" => {}); ({m"+head+" {}})", "function f"+head+" { ; 'use strict' } ("+head+" => 'use strict')", "function f"+head+" { (function() { 'use strict' }) }")
	}
	wrong(t, api.ErrStrict, "({¦set a([b]) { 'use strict' }})", "({¦set a(b = 1) { 'use strict' }})")
	right(t, "function f(a, b) { 'use strict' } function g() { 'use strict' } (a) => { 'use strict' }; ({set a(b) { 'use strict' }, get a() { 'use strict' }})")
	// A member as a parameter makes the head no list of names, and that comes ahead of the member itself.
	wrongTree(t, api.ErrStrict, "(Program ¦(Func 1 =f (Params (Dot =a (Name =a))) (Block (Expr (Text =use_strict)))))")
}

func TestBoundMembers(t *testing.T) { // P8.2, item 4
	for _, member := range []string{"(Dot =a (Name =a))", "(Index (Name =a) (Num))"} {
		for _, form := range []string{"#", "(ArrPat #)", "(ArrPat (Hole) (Name =x) #)", "(ArrPat (Rest #))", "(ArrPat (Default # (Num)))", "(ObjPat (PatProp (Text =k) #))", "(ObjPat (PatProp M1 (Num) (Default # (Num))))", "(ObjPat (Rest #))", "(ArrPat (ObjPat (PatProp (Text =k) (ArrPat #))))"} {
			target := strings.ReplaceAll(form, "#", mark+member)
			wrongTree(t, api.ErrTarget, "(Program (Var (Decl "+target+" (Num))))", "(Program (Var 1 (Decl "+target+" (Num))))", "(Program (Func 1 =f (Params (Name =y) "+target+") (Block)))", "(Program (Expr (Func 130 (Params (Default "+target+" (Num))) (Num))))", "(Program (Try (Block) (Catch "+target+" (Block)) (Empty)))", "(Program (ForOf (Var (Decl "+target+")) (Num) (Empty)))", "(Program (Func 1 =f (Params (Rest "+target+")) (Block)))")
			target = strings.ReplaceAll(form, "#", member)
			rightTree(t, "(Program (Expr (Assign == "+target+" (Num))))", "(Program (ForOf "+target+" (Num) (Empty)))", "(Program (Var (Decl (Name =b) (Assign == "+target+" (Num)))))")
		}
		rightTree(t, "(Program (Var (Decl (ArrPat (Default (Name =b) "+member+")) "+member+")))", "(Program (Var (Decl (ObjPat (PatProp M1 "+member+" (Name =b))) (Num))))", "(Program (Func 1 =f (Params (Default (Name =b) "+member+")) (Block (Expr "+member+"))))", "(Program (Try (Block) (Catch (Name =b) (Block (Expr "+member+"))) (Empty)))")
	}
	right(t, "[a.b] = c; ({d: e[f]} = g); for (a.b of c) ; for ([a.b] in c) ;")
}

func TestInitializers(t *testing.T) { // P8.2, item 5
	wrong(t, api.ErrConst, "const ¦a;", "const a = 1, ¦b", "for (const ¦a;;) ;", "for (const a = 1, ¦b;;) ;", "{ const ¦a }", "() => { const ¦a }")
	wrongTree(t, api.ErrConst, "(Program (Var ¦(Decl (ArrPat))))", "(Program (Var 1 ¦(Decl (ObjPat))))", "(Program (Var 2 ¦(Decl (ArrPat))))", "(Program (Var ¦(Decl (Dot =a (Name =b)))))", "(Program (For (Var ¦(Decl (ArrPat))) (Empty) (Empty) (Empty)))", "(Program (ForOf (Name =a) (Num) (Var ¦(Decl (ArrPat)))))", "(Program (ForIn (Var (Decl (Name =b))) (Num) (Var ¦(Decl (ArrPat)))))", "(Program (ForOf (Name =a) (Num) (Block (Var 2 ¦(Decl (Name =b))))))")
	right(t, "var a; let b; const c = 1; var [d] = e; let {f} = g; const [h] = i", "for (const a of b) ; for (const a in b) ; for (const [a] of b) ; for (let {a} in b) ; for (var [c] of d) ; for (let a;;) ;")
	wrongTree(t, api.ErrTarget, "(Program (ForOf (Var (Decl ¦(Dot =a (Name =b)))) (Num) (Empty)))")
}

func TestLabels(t *testing.T) { // P8.2, item 7
	wrong(t, api.ErrLabel, "a: ¦a: ;", "a: b: ¦a: ;", "a: { ¦a: ; }", "a: while (b) { if (c) ¦a: ; }", "a: switch (b) { case c: ¦a: ; }", "a: try {} finally { ¦a: ; }", "¦break a", "a: ; ¦break a", "b: ¦break a", "while (a) ¦break a", "while (b) ¦continue a", "a: while (b) ; while (b) ¦continue a", "a: (function() { ¦break a })", "a: while (b) { (c) => { while (d) ¦continue a } }", "a: { ({m() { ¦break a }}) }", "function a() { ¦break a }", "a: (function() { b: ¦b: ; })")
	right(t, "a: ; a: ;", "a: { b: ; } b: a: ;", "a: break a", "a: { break a }", "a: { b: { break a } }", "a: if (b) break a; else break a", "a: while (b) { break a; continue a }", "a: (function() { a: ; })", "a: { (b) => { a: break a } }", "a: try { break a } catch { break a } finally { break a }", "a: switch (b) { case c: break a }")
}

func TestJumps(t *testing.T) { // P8.2, item 8
	wrong(t, api.ErrBreak, "¦break", "¦continue", "if (a) ¦break", "{ ¦continue }", "a: ¦break", "a: ¦continue", "while (a) (function() { ¦break })", "switch (a) { case b: () => { ¦break } }", "for (;;) { ({m() { ¦continue }}) }", "switch (a) { case b: ¦continue }", "a: ¦continue a", "a: { ¦continue a }", "a: { while (b) ¦continue a }", "a: b: { while (c) ¦continue b }", "a: switch (b) { case c: ¦continue a }", "a: if (b) ¦continue a", "a: if (b) while (c) ¦continue a", "try { ¦break } finally {}", "while (a) ; ¦break", "do ; while (a); ¦continue", "(a) => { ¦break }", "a: while (b) (function() { ¦break })")
	for _, loop := range []string{"while (b) ", "for (;;) ", "for (b of c) ", "for (b in c) ", "for (var d of c) "} {
		right(t, loop+"break", loop+"continue", loop+"{ if (d) break; else continue }", "a: "+loop+"continue a", "a: e: "+loop+"{ continue a; continue e }", "a: "+loop+"{ "+loop+"continue a }", loop+"switch (d) { case e: break; default: continue }", loop+"try { break } catch { continue } finally { break }", loop+"l: { break; continue; break l }")
	}
	right(t, "do break; while (a)", "do continue; while (a)", "a: do continue a; while (b)", "a: b: c: do { continue a; continue b; continue c } while (b)", "switch (a) { case b: break; default: { break } }", "switch (a) { default: c: break }", "a: { break a }", "while (a) { (function() { while (b) break }) }")
}

func TestReturn(t *testing.T) { // P8.2, item 9
	wrong(t, api.ErrReturn, "¦return", "{ ¦return a }", "while (a) ¦return", "if (a) ; else ¦return", "a: ¦return", "function f() {} ¦return", "switch (a) { case b: ¦return }")
	right(t, "function f() { return }", "function* f() { return a }", "() => { { return } }", "({m() { return }, get a() { return 1 }, set a(b) { return }})", "function f(a = () => { return }) {}")
}

func TestFirstOfSeveral(t *testing.T) { // P8.2
	// Of several nodes it is the first, parents ahead of their children.
	wrong(t, api.ErrBreak, "¦break; return", "¦continue; break a")
	wrong(t, api.ErrReturn, "{ { ¦return } } break; const a")
	wrong(t, api.ErrConst, "const ¦a; let a")
	wrong(t, api.ErrAgain, "let f; ¦function f() { break }", "let a; const ¦a = () => { break }")
	wrong(t, api.ErrLabel, "a: ¦a: break")
	wrong(t, api.ErrStrict, "'use strict'; ¦function static() { break }", "'use strict'; (function(a = ¦delete b, a) { return })")
	wrongTree(t, api.ErrSyntax, "(Program (Expr (Object (Prop 3 ¦(Text =if)) (Prop 3 (Text =in)))))")
	wrongTree(t, api.ErrConst, "(Program (Var 2 ¦(Decl (Dot =a (Name =let)))))")
	// Of several errors of one node it is the first of the list.
	wrongTree(t, api.ErrSyntax,
		"(Program (Expr (Text =use_strict)) (Expr ¦(Name =let)))",
		"(Program (Var 1 (Decl (Name =f))) (If (Num) ¦(Func 1 =f (Params) (Block))))",
		"(Program ¦(Break =if))", "(Program ¦(Continue =let))", "(Program ¦(Label =in (Label =in (Empty))))",
		"(Program (Var 1 (Decl (Name =f))) ¦(Func 1 =let (Params (ArrPat)) (Block (Expr (Text =use_strict)))))",
		"(Program (If (Num) ¦(Func 1 =f (Params (ArrPat)) (Block (Expr (Text =use_strict))))))",
	)
	wrongTree(t, api.ErrYield, "(Program (Func 5 =f (Params (Name =a) ¦(Name =yield)) (Block (Expr (Text =use_strict)))))", "(Program (Func 5 =f (Params) (Block (Expr (Text =use_strict)) (Expr (Object (Prop 3 ¦(Text =yield)))))))")
	wrong(t, api.ErrStrict, "'use strict'; ¦break static", "'use strict'; while (a) ¦continue public", "'use strict'; ¦static: static: ;", "let f; { 'a' } ¦function f(a = 1) { 'use strict' }", "(¦static, static) => { 'use strict' }")
	wrong(t, api.ErrAgain, "let a; { var b = 1, ¦a }")
}
