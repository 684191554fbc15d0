package read

import (
	"pantomime/api"
	"testing"
)

func TestFunctions(t *testing.T) { // P7.1, P7.2
	wantExpr(t, "function () {}", "Func@0(Params@9 Block@12)")
	wantExpr(t, " function f(a, b) { c }", "Func@1:f(Params@11(Name@12:a Name@15:b) Block@18(Expr@20(Name@20:c)))")
	wantExpr(t, "function* () {}", "Func@0#4(Params@10 Block@13)")
	wantExpr(t, "function *yield(a,) {}", "Func@0#4:yield(Params@15(Name@16:a) Block@20)")
	wantExpr(t, "function get() {}", "Func@0:get(Params@12 Block@15)")
	wantProgram(t, "function f() {}", "Func@0#1:f(Params@10 Block@13)")
	wantProgram(t, " function* f(a, [b] = c, ...[d]) { var e; return f }", "Func@1#5:f(Params@12(Name@13:a Default@16(ArrPat@16(Name@17:b) Name@22:c) Rest@25(ArrPat@28(Name@29:d))) Block@33(Var@35(Decl@39(Name@39:e)) Return@42(Name@49:f)))")
	wantProgram(t, "function f(a,) {} g", "Func@0#1:f(Params@10(Name@11:a) Block@15) Expr@18(Name@18:g)")
	wantProgram(t, "function f({a, b: c = 1, ...d}, [, e]) {}", "Func@0#1:f(Params@10(ObjPat@11(PatProp@12(Text@12:a Name@12:a) PatProp@15(Text@15:b Default@18(Name@18:c Num@22#1)) Rest@25(Name@28:d)) ArrPat@32(Hole@33 Name@35:e)) Block@39)")
	wantProgram(t, "function f(a = b = c, d = (e, f)) {}", "Func@0#1:f(Params@10(Default@11(Name@11:a Assign@15:=(Name@15:b Name@19:c)) Default@22(Name@22:d Seq@27(Name@27:e Name@30:f))) Block@34)")
	wantProgram(t, "function f() {}\n(a)", "Func@0#1:f(Params@10 Block@13) Expr@17(Name@17:a)")
	noProgram(t, "function ¦() {}", "function* ¦() {}", "function ¦let() {}", "function ¦if() {}", "function ¦1() {}", "function f ¦{}", "function f(¦", "function f(¦,) {}", "function f(a,¦, b) {}", "function f(a ¦b) {}", "function f(a¦", "function f(¦1) {}", "function f(a¦.b) {}", "function f(¦let) {}", "function f(...a¦, b) {}", "function f(...a¦,) {}", "function f(...a ¦= b) {}", "function f(...¦) {}", "function f(a = ¦) {}", "function f() ¦a", "function f() {¦", "function f() {a ¦b}", "function f() {}¦}", "function *f¦", "function f() ¦=> a")
	noExpr(t, "function ¦let() {}", "function f¦", "function (¦", "function () ¦=> a", "function ¦{}", "function f ¦g() {}")
}

func TestArrows(t *testing.T) { // P7.2
	wantExpr(t, "a => b", "Func@0#130(Params@0(Name@0:a) Name@5:b)")
	wantExpr(t, " a => {}", "Func@1#2(Params@1(Name@1:a) Block@6)")
	wantExpr(t, " () => a", "Func@1#130(Params@1 Name@7:a)")
	wantExpr(t, "(a) => a", "Func@0#130(Params@0(Name@1:a) Name@7:a)")
	wantExpr(t, "(a, ...b) => a", "Func@0#130(Params@0(Name@1:a Rest@4(Name@7:b)) Name@13:a)")
	wantExpr(t, " (a, b = 1, [c], {d}, ...[e]) => {f}", "Func@1#2(Params@1(Name@2:a Default@5(Name@5:b Num@9#1) ArrPat@12(Name@13:c) ObjPat@17(PatProp@18(Text@18:d Name@18:d)) Rest@22(ArrPat@25(Name@26:e))) Block@33(Expr@34(Name@34:f)))")
	wantExpr(t, "(a,) => b", "Func@0#130(Params@0(Name@1:a) Name@8:b)")
	wantExpr(t, "a => b => c", "Func@0#130(Params@0(Name@0:a) Func@5#130(Params@5(Name@5:b) Name@10:c))")
	wantExpr(t, "a => b = c", "Func@0#130(Params@0(Name@0:a) Assign@5:=(Name@5:b Name@9:c))")
	wantExpr(t, "a => b, c", "Seq@0(Func@0#130(Params@0(Name@0:a) Name@5:b) Name@8:c)")
	wantExpr(t, "a => ({})", "Func@0#130(Params@0(Name@0:a) Object@6)")
	wantExpr(t, "a =>\n{}", "Func@0#2(Params@0(Name@0:a) Block@5)")
	wantExpr(t, "((a) => b)(c)", "Call@1(Func@1#130(Params@1(Name@2:a) Name@8:b) Name@11:c)")
	wantExpr(t, "(a = (b, c), d = [e]) => f", "Func@0#130(Params@0(Default@1(Name@1:a Seq@6(Name@6:b Name@9:c)) Default@13(Name@13:d Array@17(Name@18:e))) Name@25:f)")
	wantExpr(t, "(a = `${b}`) => c", "Func@0#130(Params@0(Default@1(Name@1:a Template@5(Text@5 Name@8:b Text@9))) Name@16:c)")
	accept(t, "(a = `b${c}d${e}f`) => g", "(a = `${(b)}${[c]}`, {d}) => e", "`${(a) => b}c${(d) => e}`")
	wantExpr(t, "\n(a\n) => b", "Func@1#130(Params@1(Name@2:a) Name@9:b)")
	noExpr(t, "a\n¦=> b", "(a)\n¦=> b", "a => ¦", "a =>¦)", "¦=> a", "a => ¦=> b", "a => {} ¦+ b", "a => {}¦(b)", "a => {}¦.b", "a => {} ¦? b : c", "a => {} ¦= b", "a => {¦", "a => {b ¦c}", "a + b ¦=> c", "!a ¦=> b", "a.b ¦=> c", "a() ¦=> b", "1 ¦=> a", "¦let => a", "this ¦=> a", "a ? b => {} ¦+ c : d", "[a] ¦=> b", "{a} ¦=> b", "function () {} ¦=> a", "(a)(b) ¦=> c")
	// What stands ahead of an arrow is read as parameters.
	noExpr(t, "(¦1) => a", "(a¦.b) => c", "(¦(a)) => b", "(a ¦+ b) => c", "(a¦()) => b", "(¦let) => a", "(...a¦,) => b", "(...a¦, b) => c", "(...a ¦= b) => c", "(a,¦, b) => c", "(¦,) => a", "(a ¦b) => c", "([a¦.b]) => c", "({a: ¦1}) => b", "({a¦() {}}) => b", "(a ¦=> b) => c", "([¦(a)]) => b", "(a ¦+= b) => c", "(a¦; b) => c", "({¦(a)}) => b", "(¦-a) => b", "(a = ¦) => b", "(a = b ¦c) => d", "(¦if) => a")
	// Where its bracket ends, whichever kind of bracket that is, the arrow would have to follow.
	noExpr(t, "(a¦] => b", "(a¦} => b", "(1¦] => b", "(1, [2¦) => b", "`${(a¦}` => b", "`${(1¦}` => b)", "(1 ¦=> b")
}

func TestArrowBodies(t *testing.T) { // P7.2
	// The body is an expression at the same level: the word in is an operator in it unless it is none around it.
	wantExpr(t, "a => b in c", "Func@0#130(Params@0(Name@0:a) Binary@5:in(Name@5:b Name@10:c))")
	noTarget(t, "for (¦a => b in c) d", "for (¦x = a => b in c) d")
	accept(t, "for (a => (b in c); ; ) d", "for (a => {b in c}; ; ) d", "for ((a = b in c) => d; ; ) e", "for (a => b ? c in d : e; ; ) f", "for (a => [b in c]; ; ) d")
}

func TestBindings(t *testing.T) { // P7.1
	wantProgram(t, "let [a, , b = 1, [c], {d}, ...e] = f", "Var@0#1(Decl@4(ArrPat@4(Name@5:a Hole@8 Default@10(Name@10:b Num@14#1) ArrPat@17(Name@18:c) ObjPat@22(PatProp@23(Text@23:d Name@23:d)) Rest@27(Name@30:e)) Name@35:f))")
	wantProgram(t, "let [,] = a, [, ...[b]] = c, [] = d, [e,] = f, [, ,] = g", "Var@0#1(Decl@4(ArrPat@4(Hole@5) Name@10:a) Decl@13(ArrPat@13(Hole@14 Rest@16(ArrPat@19(Name@20:b))) Name@26:c) Decl@29(ArrPat@29 Name@34:d) Decl@37(ArrPat@37(Name@38:e) Name@44:f) Decl@47(ArrPat@47(Hole@48 Hole@50) Name@55:g))")
	wantProgram(t, "let {a, b: c, 'd': e = 1, [f]: g, 2: h, i = 3, if: j, k: [l], ...m} = n, {} = o, {p,} = q", "Var@0#1(Decl@4(ObjPat@4(PatProp@5(Text@5:a Name@5:a) PatProp@8(Text@8:b Name@11:c) PatProp@14(Text@14:d Default@19(Name@19:e Num@23#1)) PatProp@26!1(Name@27:f Name@31:g) PatProp@34(Num@34#2 Name@37:h) PatProp@40(Text@40:i Default@40(Name@40:i Num@44#3)) PatProp@47(Text@47:if Name@51:j) PatProp@54(Text@54:k ArrPat@57(Name@58:l)) Rest@62(Name@65:m)) Name@70:n) Decl@73(ObjPat@73 Name@78:o) Decl@81(ObjPat@81(PatProp@82(Text@82:p Name@82:p)) Name@88:q))")
	wantProgram(t, "var {get, set = 1, let: a, yield, of: [b] = c} = d", "Var@0(Decl@4(ObjPat@4(PatProp@5(Text@5:get Name@5:get) PatProp@10(Text@10:set Default@10(Name@10:set Num@16#1)) PatProp@19(Text@19:let Name@24:a) PatProp@27(Text@27:yield Name@27:yield) PatProp@34(Text@34:of Default@38(ArrPat@38(Name@39:b) Name@44:c))) Name@49:d))")
	noProgram(t, "var [¦1] = a", "var [a¦.b] = c", "var [a ¦b] = c", "var [¦let] = a", "var [...a¦, b] = c", "var [...a¦,] = b", "var [...a ¦= b] = c", "var [...¦] = a", "var [¦(a)] = b", "var [a¦) = b", "var [¦", "var [a¦; b", "var [a = ¦] = b", "var [¦if] = a", "var [...¦...a] = b")
	noProgram(t, "var {a ¦b} = c", "var {a: ¦1} = b", "var {a: b¦.c} = d", "var {if¦} = a", "var {let¦} = a", "var {let ¦= a} = b", "var {'a'¦} = b", "var {1¦} = a", "var {[a]¦} = b", "var {'a' ¦= b} = c", "var {...a¦, b} = c", "var {...a¦,} = b", "var {...¦[a]} = b", "var {...¦{a}} = b", "var {...¦let} = a", "var {...a ¦= b} = c", "var {...¦} = a", "var {a¦() {}} = b", "var {get ¦a() {}} = b", "var {¦*a() {}} = b", "var {¦,} = a", "var {a,¦,} = b", "var {a¦", "var {a¦] = b", "var {a: ¦let} = b", "var {a: ¦} = b", "var {a¦.b} = c", "var {a ¦+= b} = c", "var {[¦]: a} = b", "var {[a¦, b]: c} = d", "var {¦(a)} = b")
}

func TestYield(t *testing.T) { // P7.1
	generator := func(body, tree string) {
		t.Helper()
		wantProgram(t, "function* g() { "+body+" }", "Func@0#5:g(Params@11 Block@14("+tree+"))")
	}
	generator("yield; yield a; yield* b; yield, c; [yield]; (yield); {yield}", "Expr@16(Yield@16) Expr@23(Yield@23(Name@29:a)) Expr@32(Yield@32#1(Name@39:b)) Expr@42(Seq@42(Yield@42 Name@49:c)) Expr@52(Array@52(Yield@53)) Expr@62(Yield@62) Block@70(Expr@71(Yield@71))")
	generator("yield yield a, yield* yield", "Expr@16(Seq@16(Yield@16(Yield@22(Name@28:a)) Yield@31#1(Yield@38)))")
	generator("yield\na; yield* \n b; yield *\nc", "Expr@16(Yield@16) Expr@22(Name@22:a) Expr@25(Yield@25#1(Name@34:b)) Expr@37(Yield@37#1(Name@45:c))")
	generator("a ? yield : yield b; ({a: yield}); a[yield]", "Expr@16(Cond@16(Name@16:a Yield@20 Yield@28(Name@34:b))) Expr@38(Object@38(Prop@39(Text@39:a Yield@42))) Expr@51(Index@51(Name@51:a Yield@53))")
	generator("yield `a`; `${yield}b`; a = yield b = c; yield a => b", "Expr@16(Yield@16(Template@22(Text@22:a))) Expr@27(Template@27(Text@27 Yield@30 Text@35:b)) Expr@40(Assign@40:=(Name@40:a Yield@44(Assign@50:=(Name@50:b Name@54:c)))) Expr@57(Yield@57(Func@63#130(Params@63(Name@63:a) Name@68:b)))")
	generator("yield a in b; yield -a; yield\n", "Expr@16(Yield@16(Binary@22:in(Name@22:a Name@27:b))) Expr@30(Yield@30(Unary@36:-(Name@37:a))) Expr@40(Yield@40)")
	generator("yield: a; break yield; a.yield; ({yield: a, yield() {}, get yield() {}})", "Label@16:yield(Expr@23(Name@23:a)) Break@26:yield Expr@39(Dot@39:yield(Name@39:a)) Expr@49(Object@49(Prop@50(Text@50:yield Name@57:a) Prop@60#5(Text@60:yield Func@60#8(Params@65 Block@68)) Prop@72#1(Text@76:yield Func@72#16(Params@81 Block@84))))")
	wantProgram(t, "function* g(a = yield, [b = yield c]) {}", "Func@0#5:g(Params@11(Default@12(Name@12:a Yield@16) ArrPat@23(Default@24(Name@24:b Yield@28(Name@34:c)))) Block@38)")
	accept(t, "(function* () { yield a })", "({*a() { yield b }})", "({*[yield]() { yield b }})", "function* g() { for (yield; yield; yield) yield }", "function* g() { switch (yield) {case yield: yield} }", "function* g() { f(yield, ...yield) }", "function* g() { throw yield; }", "function* g() { return yield }")
	for _, s := range []string{"yield ¦? a : b", "yield ¦in a", "yield ¦= a", "yield\n¦* a", "yield ¦=> a", "a + ¦yield", "-¦yield", "++¦yield", "new ¦yield", "yield ¦.a", "yield*¦; a", "yield *¦) ", "yield a ¦b", "a ? b : c ? ¦: d", "yield ¦&& a", "a && ¦yield", "(yield) => ¦let", "yield (a) ¦b", "yield ¦|| a"} {
		noProgram(t, "function* g() { "+s+" }")
	}
	noProgram(t, "function* g() { yield + ¦}", "function* g() { yield* ¦}", "function* g() { yield a, ¦}")
}

func TestNamesInGenerators(t *testing.T) { // P7.1
	noProgram(t, "function* g() { var ¦yield }", "function* g() { let [¦yield] = a }", "function* g() { var {yield¦} = a }", "function* g() { var {yield ¦= a} = b }", "function* g() { var {a: ¦yield} = b }", "function* g() { var {...¦yield} = a }", "function* g(¦yield) {}", "function* g({yield¦}) {}", "function* g(...¦yield) {}", "function* g() { try {} catch (¦yield) {} }", "function* g() { ({yield¦}) }", "function* g() { ({yield ¦= 1} = a) }", "function* g() { for (var ¦yield of a) b }", "({*a(¦yield) {}})", "(function* (¦yield) {})")
	noTarget(t, "function* g() { ¦[yield] = a }", "function* g() { for (¦yield in a) b }", "function* g() { for (¦a = yield b in c) d }", "function* g() { ¦[...yield] = a }")
	// A function inside is none of the generator's code, and its name is free.
	accept(t, "function* g() { function yield() {} (function yield() {}) }", "function* g() { function f(yield) { var yield; yield = yield + 1; ({yield} = yield) } }", "function* g() { (yield) => yield + 1; (a = yield) => {yield}; ([yield], {yield: yield}, ...yield) => 1 }", "function* g() { ({a(yield) { yield++ }, set b(yield) { yield-- }, get c() { return yield + 1 }}) }", "function* g() { () => { yield: yield } }", "function* yield() {}", "yield = function* yield() {}", "var yield; function* g() {} yield + 1")
	noProgram(t, "function* g() { (() => {}); var ¦yield }", "function* g() { function f() {} var ¦yield }", "function* g() { ({a() {}}); var ¦yield }", "function f() { function* g() {} yield ¦a }", "function* g() { () => yield ¦a }", "function* g() { (a = yield ¦b) => c }", "({a() { yield ¦b }})", "({*[yield ¦a]() {}})", "function* g() { ({*[yield a]() { yield b }, c() { yield ¦d }}) }", "yield ¦a", "x => { yield ¦a }", "function f(a = yield ¦b) {}", "function* g() {} yield ¦a", "yield *¦")
	wantProgram(t, "yield * a", "Expr@0(Binary@0:*(Name@0:yield Name@8:a))")
	wantProgram(t, "function* g() { (yield) => yield; (a = yield) => {yield} }", "Func@0#5:g(Params@11 Block@14(Expr@16(Func@16#130(Params@16(Name@17:yield) Name@27:yield)) Expr@34(Func@34#2(Params@34(Default@35(Name@35:a Name@39:yield)) Block@49(Expr@50(Name@50:yield))))))")
	wantExpr(t, "yield => yield", "Func@0#130(Params@0(Name@0:yield) Name@9:yield)")
}

func TestDirectives(t *testing.T) { // P7.1
	strict := func(s string, want int) {
		t.Helper()
		n, at, e := Program(s)
		if n.N != want || at != 0 || e != api.OK {
			t.Errorf("%q: N %d, %d at %d", s, n.N, e, at)
		}
	}
	for _, s := range []string{"'use strict'", "\"use strict\"", "'use strict';", " 'use strict' ; a", "'use strict'\na", "'use strict'\n;a", "'a'; 'use strict'", "'a'; \"b\"\n'use strict'; c", "'use\\x20strict'; 'use strict'", "'use strict'; 'a'", "'use strict' // a", "'use strict'\n{a}", "'use strict'\nfunction f() {}", "'use strict'\n!a", "'use strict'\n++a"} {
		strict(s, 1)
	}
	for _, s := range []string{"", "a", "'a'", "'use  strict'", "'Use strict'", "'use strict '", "'use\\x20strict'", "'\\x75se strict'", "'use strict\\x00'", "('use strict')", "a; 'use strict'", "; 'use strict'", "{'use strict'}", "'use strict', a", "'use strict' + a", "'use strict'.a", "'use strict'\n.a", "'use strict'\n[a]", "'use strict'\n(a)", "'use strict'\n+ a", "'use strict' ? a : b", "'use strict' in a", "'a'.b; 'use strict'", "('a'); 'use strict'", "-'use strict'", "`use strict`", "`use strict`; 'use strict'", "if (a) 'use strict'", "var a; 'use strict'", "'a' + 'b'; 'use strict'", "function f() {'use strict'}", "a: 'use strict'", "do 'use strict'; while (a)", "switch (a) {case b: 'use strict'}"} {
		strict(s, 0)
	}
	wantProgram(t, "function f() {'use strict'}", "Func@0#65:f(Params@10 Block@13(Expr@14(Text@14:use strict)))")
	wantProgram(t, "function* f() {'use strict'; function g() {}} function h() {'a'; 'use strict'}", "Func@0#69:f(Params@11 Block@14(Expr@15(Text@15:use strict) Func@29#1:g(Params@39 Block@42))) Func@46#65:h(Params@56 Block@59(Expr@60(Text@60:a) Expr@65(Text@65:use strict)))")
	wantExpr(t, "function () {'use strict'}", "Func@0#64(Params@9 Block@12(Expr@13(Text@13:use strict)))")
	wantExpr(t, "a => {'use strict'}", "Func@0#66(Params@0(Name@0:a) Block@5(Expr@6(Text@6:use strict)))")
	wantExpr(t, "a => 'use strict'", "Func@0#130(Params@0(Name@0:a) Text@5:use strict)")
	wantExpr(t, "{a() {'use strict'}, *b() {'use strict'}}", "Object@0(Prop@1#5(Text@1:a Func@1#72(Params@2 Block@5(Expr@6(Text@6:use strict)))) Prop@21#5(Text@22:b Func@21#76(Params@23 Block@26(Expr@27(Text@27:use strict)))))")
	wantExpr(t, "{get a() {'use strict'}, set b(c) {'use strict'}}", "Object@0(Prop@1#1(Text@5:a Func@1#80(Params@6 Block@9(Expr@10(Text@10:use strict)))) Prop@25#2(Text@29:b Func@25#96(Params@30(Name@31:c) Block@34(Expr@35(Text@35:use strict)))))")
	wantProgram(t, "function f() {a; 'use strict'} function g() {{'use strict'}}", "Func@0#1:f(Params@10 Block@13(Expr@14(Name@14:a) Expr@17(Text@17:use strict))) Func@31#1:g(Params@41 Block@44(Block@45(Expr@46(Text@46:use strict))))")
}
