package read

import "testing"

func TestSimpleStatements(t *testing.T) { // P7.1
	wantProgram(t, "", "")
	wantProgram(t, " // a\n/* b */", "")
	wantProgram(t, " ;", "Empty@1")
	wantProgram(t, ";;", "Empty@0 Empty@1")
	wantProgram(t, "a", "Expr@0(Name@0:a)")
	wantProgram(t, " (a);", "Expr@2(Name@2:a)")
	wantProgram(t, "a, b; c", "Expr@0(Seq@0(Name@0:a Name@3:b)) Expr@6(Name@6:c)")
	wantProgram(t, "{} {a; {b}}", "Block@0 Block@3(Expr@4(Name@4:a) Block@7(Expr@8(Name@8:b)))")
	wantProgram(t, "{a} {b}", "Block@0(Expr@1(Name@1:a)) Block@4(Expr@5(Name@5:b))")
	wantProgram(t, "{a: b}", "Block@0(Label@1:a(Expr@4(Name@4:b)))")
	wantProgram(t, "({a: b})", "Expr@1(Object@1(Prop@2(Text@2:a Name@5:b)))")
	noProgram(t, "a ¦b", "a¦)", "a; ¦)", "{¦", "{a¦", "{a ¦b}", "{a; ¦)}", "{}¦}", "¦}", "a; ¦}", "a¦}", "¦)", "¦case a: b", "{¦case a: b}", "¦else a", "¦catch {}", "¦finally {}", "¦default: a", "¦class a {}", "¦debugger", "¦import a", "¦export a", "¦with (a) b", "¦extends", "¦:", "{a, b¦: c}", "{'a'¦: b}")
}

func TestTerminators(t *testing.T) { // P7.1
	wantProgram(t, "a\nb", "Expr@0(Name@0:a) Expr@2(Name@2:b)")
	wantProgram(t, "a /*\n*/ b", "Expr@0(Name@0:a) Expr@8(Name@8:b)")
	wantProgram(t, "a\n;b", "Expr@0(Name@0:a) Expr@3(Name@3:b)")
	wantProgram(t, "a;\n;", "Expr@0(Name@0:a) Empty@3")
	wantProgram(t, "a\n++b", "Expr@0(Name@0:a) Expr@2(Update@2#1:++(Name@4:b))")
	wantProgram(t, "a\n--\nb", "Expr@0(Name@0:a) Expr@2(Update@2#1:--(Name@5:b))")
	wantProgram(t, "a\n(b)", "Expr@0(Call@0(Name@0:a Name@3:b))")
	wantProgram(t, "a\n+ b\n* c", "Expr@0(Binary@0:+(Name@0:a Binary@4:*(Name@4:b Name@8:c)))")
	wantProgram(t, "a = b\n{c}", "Expr@0(Assign@0:=(Name@0:a Name@4:b)) Block@6(Expr@7(Name@7:c))")
	wantProgram(t, "a => {}\n+b", "Expr@0(Func@0#2(Params@0(Name@0:a) Block@5)) Expr@8(Unary@8:+(Name@9:b))")
	wantProgram(t, "var a\nlet b", "Var@0(Decl@4(Name@4:a)) Var@6#1(Decl@10(Name@10:b))")
	wantProgram(t, "{a\n} {var b} {throw c} {return} {break} {continue}", "Block@0(Expr@1(Name@1:a)) Block@5(Var@6(Decl@10(Name@10:b))) Block@13(Throw@14(Name@20:c)) Block@23(Return@24) Block@32(Break@33) Block@40(Continue@41)")
	noProgram(t, "a\n¦=> b", "var a ¦b", "var a ¦var b", "let a ¦{}", "throw a ¦b", "return a ¦b", "return ¦) a", "break a ¦b", "continue ¦+", "break ¦if", "a++ ¦b", "(a) ¦b", "if (a) b ¦else c", "do a ¦while (b)", "if (a) ¦else b", "a ¦if", "a ¦{b}", "var a = b ¦c", "'a' ¦'b'", "1 ¦'a'", "a ¦function f() {}")
}

func TestDeclarations(t *testing.T) { // P7.1
	wantProgram(t, "var a", "Var@0(Decl@4(Name@4:a))")
	wantProgram(t, " var a = 1, b, [c] = d, {e} = f;", "Var@1(Decl@5(Name@5:a Num@9#1) Decl@12(Name@12:b) Decl@15(ArrPat@15(Name@16:c) Name@21:d) Decl@24(ObjPat@24(PatProp@25(Text@25:e Name@25:e)) Name@30:f))")
	wantProgram(t, "let a; const b = 1, c", "Var@0#1(Decl@4(Name@4:a)) Var@7#2(Decl@13(Name@13:b Num@17#1) Decl@20(Name@20:c))")
	wantProgram(t, "var yield, of, get = set = a", "Var@0(Decl@4(Name@4:yield) Decl@11(Name@11:of) Decl@15(Name@15:get Assign@21:=(Name@21:set Name@27:a)))")
	wantProgram(t, "let\na", "Var@0#1(Decl@4(Name@4:a))")
	wantProgram(t, "var a = b in c, d = (e, f)", "Var@0(Decl@4(Name@4:a Binary@8:in(Name@8:b Name@13:c)) Decl@16(Name@16:d Seq@21(Name@21:e Name@24:f)))")
	noProgram(t, "var ¦", "var¦;", "var ¦let", "var ¦if", "var ¦1", "var a,¦", "var a ¦+= b", "var a =¦", "var a¦.b = c", "var ¦(a)", "var a = ¦, b", "let ¦= 1", "let¦", "let¦;", "let¦.a", "let ¦let", "let¦: a", "let¦(a)", "let ¦=> a", "const ¦let = a", "const ¦= a", "let a, ¦let", "var a ¦of b", "var a ¦in b", "let \n¦if")
	// A pattern has to have an initial value.
	noProgram(t, "var [a]¦", "var [a]¦;", "let {a}¦, b", "const [a]\n¦", "var [a] ¦of b", "var [a] ¦in b", "let {a} ¦b", "var a, [b]¦;", "let [a]\n¦b", "var {}¦}", "{var {}¦}")
	// Declarations but var stand in lists alone.
	for _, s := range []string{"¦let a", "¦const a = b", "¦function f() {}", "¦function* f() {}", "¦let [a] = b"} {
		noProgram(t, "if (a) "+s, "if (a) b; else "+s, "while (a) "+s, "do "+s+"; while (a)", "for (;;) "+s, "for (a of b) "+s, "for (var a in b) "+s, "a: "+s, "{a: "+s+"}", "if (a) b: "+s)
	}
	accept(t, "if (a) var b; else var c", "while (a) var b", "do var a; while (b)", "for (;;) var a", "a: var b", "{let a; const b = c; function f() {}}", "switch (a) {case b: let c; function f() {} default: const d = e}", "function f() {let a; function g() {}}", "try {let a} catch {const b = c} finally {function f() {}}")
}

func TestConditionsAndLoops(t *testing.T) { // P7.1
	wantProgram(t, "if (a, b) c", "If@0(Seq@4(Name@4:a Name@7:b) Expr@10(Name@10:c))")
	wantProgram(t, "if (a) b; else c", "If@0(Name@4:a Expr@7(Name@7:b) Expr@15(Name@15:c))")
	wantProgram(t, "if (a) b\nelse c", "If@0(Name@4:a Expr@7(Name@7:b) Expr@14(Name@14:c))")
	wantProgram(t, "if (a) if (b) c; else d", "If@0(Name@4:a If@7(Name@11:b Expr@14(Name@14:c) Expr@22(Name@22:d)))")
	wantProgram(t, " if ((a)) {} else if (b) {} else {} c", "If@1(Name@6:a Block@10 If@18(Name@22:b Block@25 Block@33)) Expr@36(Name@36:c)")
	wantProgram(t, "while (a, b) c", "While@0(Seq@7(Name@7:a Name@10:b) Expr@13(Name@13:c))")
	wantProgram(t, "while (a) ; b", "While@0(Name@7:a Empty@10) Expr@12(Name@12:b)")
	wantProgram(t, "do a; while (b, c)", "Do@0(Expr@3(Name@3:a) Seq@13(Name@13:b Name@16:c))")
	wantProgram(t, "do a; while (b); c", "Do@0(Expr@3(Name@3:a) Name@13:b) Expr@17(Name@17:c)")
	wantProgram(t, "do a; while (b);; c", "Do@0(Expr@3(Name@3:a) Name@13:b) Empty@16 Expr@18(Name@18:c)")
	wantProgram(t, "do {} while (a) b", "Do@0(Block@3 Name@13:a) Expr@16(Name@16:b)")
	wantProgram(t, "do a\nwhile (b) c", "Do@0(Expr@3(Name@3:a) Name@12:b) Expr@15(Name@15:c)")
	wantProgram(t, "do do a; while (b) while (c)", "Do@0(Do@3(Expr@6(Name@6:a) Name@16:b) Name@26:c)")
	wantProgram(t, "if (a) do b; while (c); else d", "If@0(Name@4:a Do@7(Expr@10(Name@10:b) Name@20:c) Expr@29(Name@29:d))")
	noProgram(t, "if ¦a", "if (¦) a", "if (a¦", "if (a¦; b) c", "if (a)¦", "if (a) b; else¦", "if (a) {} ¦) else {}", "if (a) b; c; ¦else d", "if (a ¦b) c", "if (a) ¦}")
	noProgram(t, "while ¦a", "while (¦) a", "while (a)¦", "while (a¦] b", "do¦", "do a;¦", "do a; ¦b; while (c)", "do a; while ¦b", "do a; while (b¦", "do a; while (¦)", "do a¦", "do while (a)¦", "do {}¦", "do a; while (b) ¦)")
}

func TestFor(t *testing.T) { // P7.1
	wantProgram(t, "for (;;) a", "For@0(Empty@5 Empty@6 Empty@7 Expr@9(Name@9:a))")
	wantProgram(t, " for ( ; ; ) ;", "For@1(Empty@7 Empty@9 Empty@11 Empty@13)")
	wantProgram(t, "for (a; b; c) ;", "For@0(Expr@5(Name@5:a) Name@8:b Name@11:c Empty@14)")
	wantProgram(t, "for (a, b; c, d; e, f) {}", "For@0(Expr@5(Seq@5(Name@5:a Name@8:b)) Seq@11(Name@11:c Name@14:d) Seq@17(Name@17:e Name@20:f) Block@23)")
	wantProgram(t, "for ((a in b), c; d in e; f in g) h", "For@0(Expr@6(Seq@6(Binary@6:in(Name@6:a Name@11:b) Name@15:c)) Binary@18:in(Name@18:d Name@23:e) Binary@26:in(Name@26:f Name@31:g) Expr@34(Name@34:h))")
	wantProgram(t, "for (var a = 1, b; a; ) c", "For@0(Var@5(Decl@9(Name@9:a Num@13#1) Decl@16(Name@16:b)) Name@19:a Empty@22 Expr@24(Name@24:c))")
	wantProgram(t, "for (let [a] = b, {c} = d; ; e) f", "For@0(Var@5#1(Decl@9(ArrPat@9(Name@10:a) Name@15:b) Decl@18(ObjPat@18(PatProp@19(Text@19:c Name@19:c)) Name@24:d)) Empty@27 Name@29:e Expr@32(Name@32:f))")
	wantProgram(t, "for (const a; ; ) b", "For@0(Var@5#2(Decl@11(Name@11:a)) Empty@14 Empty@16 Expr@18(Name@18:b))")
	wantProgram(t, "for (let of = a; ; ) b", "For@0(Var@5#1(Decl@9(Name@9:of Name@14:a)) Empty@17 Empty@19 Expr@21(Name@21:b))")
	wantProgram(t, "for (a = b; ; ) c", "For@0(Expr@5(Assign@5:=(Name@5:a Name@9:b)) Empty@12 Empty@14 Expr@16(Name@16:c))")
	wantProgram(t, "for ([a] = b; ; ) c", "For@0(Expr@5(Assign@5:=(ArrPat@5(Name@6:a) Name@11:b)) Empty@14 Empty@16 Expr@18(Name@18:c))")
	wantProgram(t, "for (\na\n;\n;\n) b", "For@0(Expr@6(Name@6:a) Empty@10 Empty@12 Expr@14(Name@14:b))")
	wantProgram(t, "for (1; ; ) a", "For@0(Expr@5(Num@5#1) Empty@8 Empty@10 Expr@12(Name@12:a))")
	noProgram(t, "for ¦a", "for (¦) a", "for (a¦) b", "for (a; b¦) c", "for (a; b; c¦; d) e", "for (;;)¦", "for (;¦) a", "for (;;¦", "for (a\n¦b;;) c", "for (a¦", "for (a, ¦; ; ) b", "for (;; a ¦b) c", "for (; a ¦b; ) c", "for (a ¦b; ; ) c", "for (var¦; ; ) a", "for (var a¦) b", "for (var a,¦; ; ) b", "for (var a ¦b; ; ) c", "for (var [a]¦; ; ) b", "for (var a, {b}¦; ; ) c", "for (¦if; ; ) a", "for (let¦; ; ) a", "for (let ¦= 1; ; ) a", "for (const ¦let = a; ; ) b", "for (var a; ; ) ¦let b")
}

func TestForEach(t *testing.T) { // P7.1
	wantProgram(t, "for (var a of b) c", "ForOf@0(Var@5(Decl@9(Name@9:a)) Name@14:b Expr@17(Name@17:c))")
	wantProgram(t, " for (let [a] of b = c) d", "ForOf@1(Var@6#1(Decl@10(ArrPat@10(Name@11:a))) Assign@17:=(Name@17:b Name@21:c) Expr@24(Name@24:d))")
	wantProgram(t, "for (const {a} in b, c) d", "ForIn@0(Var@5#2(Decl@11(ObjPat@11(PatProp@12(Text@12:a Name@12:a)))) Seq@18(Name@18:b Name@21:c) Expr@24(Name@24:d))")
	wantProgram(t, "for (a of b) c", "ForOf@0(Name@5:a Name@10:b Expr@13(Name@13:c))")
	wantProgram(t, "for (a.b in c, d) {}", "ForIn@0(Dot@5:b(Name@5:a) Seq@12(Name@12:c Name@15:d) Block@18)")
	wantProgram(t, "for (a[b in c] of d in e) f", "ForOf@0(Index@5(Name@5:a Binary@7:in(Name@7:b Name@12:c)) Binary@18:in(Name@18:d Name@23:e) Expr@26(Name@26:f))")
	wantProgram(t, "for ([a, b = 1] of c) d", "ForOf@0(ArrPat@5(Name@6:a Default@9(Name@9:b Num@13#1)) Name@19:c Expr@22(Name@22:d))")
	wantProgram(t, "for ({a, b = 1} in c) d", "ForIn@0(ObjPat@5(PatProp@6(Text@6:a Name@6:a) PatProp@9(Text@9:b Default@9(Name@9:b Num@13#1))) Name@19:c Expr@22(Name@22:d))")
	wantProgram(t, "for ((a) of b) c", "ForOf@0(Name@6:a Name@12:b Expr@15(Name@15:c))")
	wantProgram(t, "for ((a.b) in c) d", "ForIn@0(Dot@6:b(Name@6:a) Name@14:c Expr@17(Name@17:d))")
	wantProgram(t, "for (of of of) of", "ForOf@0(Name@5:of Name@11:of Expr@15(Name@15:of))")
	wantProgram(t, "for (var of of of) of", "ForOf@0(Var@5(Decl@9(Name@9:of)) Name@15:of Expr@19(Name@19:of))")
	wantProgram(t, "for (a of b => c) d", "ForOf@0(Name@5:a Func@10#130(Params@10(Name@10:b) Name@15:c) Expr@18(Name@18:d))")
	noTarget(t, "for (¦1 of a) b", "for (¦a = b of c) d", "for (¦a = b in c) d", "for (¦a() of b) c", "for (¦a?.b of c) d", "for (¦a + b in c) d", "for (¦[1] of a) b", "for (¦[a = 1, 2] in b) c", "for (¦{a() {}} of b) c", "for (¦a => b of c) d", "for ((¦a, b) of c) d", "for ((¦[a]) of b) c", "for ((¦{a}) in b) c", "for ((¦a = b) of c) d", "for (¦a += b of c) d", "for (¦a++ of b) c", "for (¦this in a) b", "for (¦new a of b) c", "for (¦a ? b : c of d) e", "for (¦1 of ) b", "for (¦1 in", "for (¦-a in b) c")
	noProgram(t, "for (a of b¦, c) d", "for (var a of b¦, c) d", "for (a of¦) b", "for (a in¦) b", "for (a of b¦; c; d) e", "for (a in b¦; ; ) c", "for (a of b ¦of c) d", "for (a, b ¦of c) d", "for (a, b ¦in c) d", "for (var a, b ¦of c) d", "for (var a, b ¦in c) d", "for (var a = b ¦of c) d", "for (var a = b ¦in c) d", "for (let [a] = b ¦of c) d", "for (var a, [b] ¦of c) d", "for (var [a]¦, b of c) d", "for (let {a} = b ¦in c) d", "for (const a ¦on b) c", "for (let of ¦a) b", "for (let ¦in a) b", "for (; of ¦a) b", "for (var of¦) a", "for (a ¦'of' b) c", "for (var a ¦'in' b) c", "for (a of b) ¦const c = d", "for (a of b)¦", "for (var a¦.b of c) d", "for (var ¦(a) of b) c")
}

func TestWithoutIn(t *testing.T) { // P7.1
	// Where the word in is no operator, a for head can't go on with it.
	noProgram(t, "for (var a = b ¦in c; ; ) d", "for (a, b ¦in c; ; ) d", "for (var a = b + c ¦in d; ; ) e", "for (var a = b ? c : d ¦in e; ; ) f", "for (var a = b = c ¦in d; ; ) e", "for (var a = !b ¦in c; ; ) d", "for (var a = b => c ¦in d; ; ) e", "for (let a, b = c ¦in d; ; ) e", "for (a, b = c ¦in d; ; ) e", "function* g() { for (var a = yield b ¦in c; ; ) d }", "for (a, b => c ¦in d; ; ) e")
	accept(t, "for (var a = (b in c); ; ) d", "for (var a = [b in c]; ; ) d", "for (var a = {b: c in d}; ; ) e", "for (var a = b[c in d]; ; ) e", "for (var a = b(c in d); ; ) e", "for (var a = b(...c in d); ; ) e", "for (var a = new b(c in d); ; ) e", "for (var a = b ? c in d : e; ; ) f", "for (var a = {[b in c]: d}; ; ) e", "for (var a = `${b in c}`; ; ) d", "for (var a = function (b = c in d) { e in f }; ; ) g", "for (var a = b => { c in d }; ; ) e", "for (var [a = b in c] = d; ; ) e", "for (var {[a in b]: c = d in e} = f; ; ) g", "for (var a = b?.[c in d]; ; ) e", "for (var a = (b = c in d) => e; ; ) f", "for (a = b ? c in d : e, f[g in h]; ; ) i", "for (a; b in c; d in e) f in g", "for (var a in b in c) d", "for (var a of b in c) d", "for (var a = {b() { c in d }}; ; ) e")
	wantProgram(t, "for (var a = b ? c in d : e; ; ) f", "For@0(Var@5(Decl@9(Name@9:a Cond@13(Name@13:b Binary@17:in(Name@17:c Name@22:d) Name@26:e))) Empty@29 Empty@31 Expr@33(Name@33:f))")
	wantProgram(t, "for (var a = b instanceof c; ; ) d", "For@0(Var@5(Decl@9(Name@9:a Binary@13:instanceof(Name@13:b Name@26:c))) Empty@29 Empty@31 Expr@33(Name@33:d))")
}

func TestJumps(t *testing.T) { // P7.1
	wantProgram(t, "continue", "Continue@0")
	wantProgram(t, "break; continue a; break b", "Break@0 Continue@7:a Break@19:b")
	wantProgram(t, "break\na", "Break@0 Expr@6(Name@6:a)")
	wantProgram(t, "continue /*\n*/ a;", "Continue@0 Expr@15(Name@15:a)")
	wantProgram(t, "break let; continue yield; break of", "Break@0:let Continue@11:yield Break@27:of")
	wantProgram(t, "return", "Return@0")
	wantProgram(t, "return a, b", "Return@0(Seq@7(Name@7:a Name@10:b))")
	wantProgram(t, "return; a", "Return@0 Expr@8(Name@8:a)")
	wantProgram(t, "return\na", "Return@0 Expr@7(Name@7:a)")
	wantProgram(t, "return (\na)", "Return@0(Name@9:a)")
	wantProgram(t, "throw a, b", "Throw@0(Seq@6(Name@6:a Name@9:b))")
	wantProgram(t, " throw (a)\nb", "Throw@1(Name@8:a) Expr@11(Name@11:b)")
	noProgram(t, "throw\n¦a", "throw¦", "throw¦;", "throw\n¦", "throw¦}", "throw /*\n*/ ¦a", "break ¦1", "break ¦'a'", "continue ¦(a)", "break a¦.b", "break a¦: b", "break ¦=", "return ¦)", "return ¦=", "return ¦let", "return a,¦", "return ¦: a", "break a¦, b", "{break ¦if}")
}

func TestLabels(t *testing.T) { // P7.1
	wantProgram(t, "a: b", "Label@0:a(Expr@3(Name@3:b))")
	wantProgram(t, " a\n: b: for (;;) continue b", "Label@1:a(Label@5:b(For@8(Empty@13 Empty@14 Empty@15 Continue@17:b)))")
	wantProgram(t, "yield: of: get: ;", "Label@0:yield(Label@7:of(Label@11:get(Empty@16)))")
	wantProgram(t, "a: {} b", "Label@0:a(Block@3) Expr@6(Name@6:b)")
	wantProgram(t, "a ? b : c", "Expr@0(Cond@0(Name@0:a Name@4:b Name@8:c))")
	noProgram(t, "let¦: a", "if¦: a", "a:¦", "a: ¦}", "{a: ¦}", "a: ¦:", "(a)¦: b", "'a'¦: b", "1¦: a", "a.b¦: c", "a, b¦: c", "this¦: a")
}

func TestSwitch(t *testing.T) { // P7.1
	wantProgram(t, "switch (a, b) {}", "Switch@0(Seq@8(Name@8:a Name@11:b))")
	wantProgram(t, " switch (a) {case b, c: d; case e: default: f; g; case h:}", "Switch@1(Name@9:a Case@13(Seq@18(Name@18:b Name@21:c) Expr@24(Name@24:d)) Case@27(Name@32:e) Case@35#1(Expr@44(Name@44:f) Expr@47(Name@47:g)) Case@50(Name@55:h))")
	wantProgram(t, "switch (a) {default: let b; function c() {} case 1: const d = e}", "Switch@0(Name@8:a Case@12#1(Var@21#1(Decl@25(Name@25:b)) Func@28#1:c(Params@38 Block@41)) Case@44(Num@49#1 Var@52#2(Decl@58(Name@58:d Name@62:e))))")
	wantProgram(t, "switch (a) {case b ? c : d: {} e\ncase f: g}", "Switch@0(Name@8:a Case@12(Cond@17(Name@17:b Name@21:c Name@25:d) Block@28 Expr@31(Name@31:e)) Case@33(Name@38:f Expr@41(Name@41:g)))")
	wantProgram(t, "switch (a) {default: 'use strict'}", "Switch@0(Name@8:a Case@12#1(Expr@21(Text@21:use strict)))")
	noProgram(t, "switch ¦a", "switch (¦) {}", "switch (a¦", "switch (a) ¦b", "switch (a)¦", "switch (a) {¦b}", "switch (a) {¦", "switch (a) {case ¦: b}", "switch (a) {case b ¦c}", "switch (a) {case b¦}", "switch (a) {case b: c ¦d}", "switch (a) {case b: c ¦case d:}", "switch (a) {default ¦b:}", "switch (a) {default¦}", "switch (a) {default: ¦default:}", "switch (a) {default: b; case c: ¦default: d}", "switch (a) {case b:¦", "switch (a) {¦;}", "switch (a) {case b: {¦case c:}}", "switch (a) {case b: ¦)}", "switch (a) {¦'default': b}", "switch (a) {case b¦; c}")
}

func TestTry(t *testing.T) { // P7.1
	wantProgram(t, "try {a} catch {b}", "Try@0(Block@4(Expr@5(Name@5:a)) Catch@8(Empty@14 Block@14(Expr@15(Name@15:b))) Empty@17)")
	wantProgram(t, " try {} catch (a) {} finally {}", "Try@1(Block@5 Catch@8(Name@15:a Block@18) Block@29)")
	wantProgram(t, "try {} catch ([a, {b = 1}]) {} c", "Try@0(Block@4 Catch@7(ArrPat@14(Name@15:a ObjPat@18(PatProp@19(Text@19:b Default@19(Name@19:b Num@23#1)))) Block@28) Empty@31) Expr@31(Name@31:c)")
	wantProgram(t, "try {} finally {a}", "Try@0(Block@4 Empty@7 Block@15(Expr@16(Name@16:a)))")
	wantProgram(t, "try {}\ncatch\n{}\nfinally\n{}", "Try@0(Block@4 Catch@7(Empty@13 Block@13) Block@24)")
	noProgram(t, "try {}¦", "try {} ¦a", "try ¦a", "try¦", "try {¦", "try {} catch¦", "try {} catch ¦a {}", "try {} catch (¦) {}", "try {} catch (a¦, b) {}", "try {} catch (a ¦= b) {}", "try {} catch (¦1) {}", "try {} catch (¦let) {}", "try {} catch (a¦.b) {}", "try {} catch (a)¦", "try {} catch (a) ¦;", "try {} finally¦", "try {} finally ¦a", "try {} finally ¦(a) {}", "try {} finally {} ¦catch {}", "try {} catch {} ¦catch {}", "try {} catch {} finally {} ¦finally {}", "try {}¦;", "try ¦;")
}
