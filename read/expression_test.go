package read

import (
	"pantomime/api"
	"strconv"
	"strings"
	"testing"
)

func TestRank(t *testing.T) { // P7.3
	ranks := []string{"??", "||", "&&", "|", "^", "&", "== != === !==", "< > <= >= instanceof in", "<< >>", "+ -", "* / %"}
	for i, l := range ranks {
		for _, op := range strings.Fields(l) {
			if Rank(op) != i+1 {
				t.Errorf("Rank(%s): %d", op, Rank(op))
			}
		}
	}
	for _, op := range []string{"", "=", "=>", "!", "~", "?", "?.", ":", ",", ".", "...", "++", "--", "+=", "&&=", "||=", "??=", "<<=", "**", ">>>", "of", "In", "in ", " in", "typeof", "delete", "instance", "===="} {
		if Rank(op) != 0 {
			t.Errorf("Rank(%s): %d", op, Rank(op))
		}
	}
}

func TestPrimary(t *testing.T) { // P7.2
	wantExpr(t, "1", "Num@0#1")
	wantExpr(t, " 0x1F", "Num@1#31")
	wantExpr(t, "'a\\x41'", "Text@0:aA")
	wantExpr(t, "\"\"", "Text@0")
	wantExpr(t, "true", "Bool@0#1")
	wantExpr(t, " false", "Bool@1")
	wantExpr(t, "null", "Null@0")
	wantExpr(t, " this // b", "This@1")
	wantExpr(t, "/* a */ b", "Name@8:b")
	for _, name := range []string{"a", "$", "_1", "of", "get", "set", "yield", "let1", "static", "async", "undefined"} {
		wantExpr(t, name, "Name@0:"+name)
	}
	wantExpr(t, "(a)", "Name@1:a")
	wantExpr(t, " ( ( a ) )", "Name@5:a")
	wantExpr(t, "(a, b)", "Seq@1(Name@1:a Name@4:b)")
	wantExpr(t, "((a, b), c)", "Seq@2(Seq@2(Name@2:a Name@5:b) Name@9:c)")
	wantExpr(t, "a, (b, c), d", "Seq@0(Name@0:a Seq@4(Name@4:b Name@7:c) Name@11:d)")
	noExpr(t, "¦", " ¦", "// a¦", "a, ¦", "¦, a", "(¦", "(a¦", "(a¦]", "(a,¦)", "(a¦;)", "(¦, a)", "(¦...a)", "(a, ¦...b)", "a¦)", "a ¦b", "a¦;", "1 ¦1", "a, b ¦c", "¦;", "¦}", "¦=>", "¦]", "¦)")
	noExpr(t, "¦let", "¦if", "¦var a", "¦class", "¦case", "¦in", "¦import", "¦super", "¦enum", "¦else", "¦debugger", "a = ¦let", "(¦let)", "a + ¦return", "¦export")
}

func TestEmptyParentheses(t *testing.T) { // P7.2
	noExpr(t, "()¦", "() ¦)", "()¦[0]", "a + () ¦=> b", "(()¦)", "()\n¦=> a", "a = ()¦, b", "!() ¦=> a", "new ()¦", "a ? () ¦: b")
	noProgram(t, "()¦;", "()\n¦a", "{()¦}")
	wantExpr(t, "a()", "Call@0(Name@0:a)")
}

func TestTemplates(t *testing.T) { // P7.2
	wantExpr(t, "``", "Template@0(Text@0)")
	wantExpr(t, " `a\\n$`", "Template@1(Text@1:a\n$)")
	wantExpr(t, "`a${b}c`", "Template@0(Text@0:a Name@4:b Text@5:c)")
	wantExpr(t, " `${a, b}${`${c}`}d`", "Template@1(Text@1 Seq@4(Name@4:a Name@7:b) Text@8 Template@11(Text@11 Name@14:c Text@15) Text@17:d)")
	wantExpr(t, "`${{}}`", "Template@0(Text@0 Object@3 Text@5)")
	wantExpr(t, "`${a in b}` + c", "Binary@0:+(Template@0(Text@0 Binary@3:in(Name@3:a Name@8:b) Text@9) Name@14:c)")
	noExpr(t, "`${¦}`", "`${a ¦b}`", "`${a¦)}`", "`${a,¦}`", "`${a¦", "`${(a¦}`)", "`${¦;}`", "`${a¦]}`", "`a${`b`¦", "`a${b ¦`c`}`")
	noExpr(t, "a¦`b`", "a.b ¦`${c}`", "a()\n¦`b`", "`a`¦`b`", "(a)¦`b`", "function () {} ¦`b`", "a?.b¦`c`", "a?.¦`c`", "new a¦`b`", "new a.b\n¦`c`", "new a() ¦`b`", "new new a ¦`b`", "[]¦``", "a++ ¦``", "a => {} ¦``")
	accept(t, "a => {}\n`b`", "a++\n`b`", "`${a}${b}`", "a + `b`", "{}`a`")
}

func TestArrays(t *testing.T) { // P7.2
	wantExpr(t, "[]", "Array@0")
	wantExpr(t, "[ a]", "Array@0(Name@2:a)")
	wantExpr(t, "[a,]", "Array@0(Name@1:a)")
	wantExpr(t, "[,]", "Array@0(Hole@1)")
	wantExpr(t, "[, a, , b,,]", "Array@0(Hole@1 Name@3:a Hole@6 Name@8:b Hole@10)")
	wantExpr(t, " [...a, , ...[b], c,]", "Array@1(Spread@2(Name@5:a) Hole@8 Spread@10(Array@13(Name@14:b)) Name@18:c)")
	wantExpr(t, "[a = b, (c, d), e ? f : g]", "Array@0(Assign@1:=(Name@1:a Name@5:b) Seq@9(Name@9:c Name@12:d) Cond@16(Name@16:e Name@20:f Name@24:g))")
	wantExpr(t, "[...a = b]", "Array@0(Spread@1(Assign@4:=(Name@4:a Name@8:b)))")
	noExpr(t, "[¦", "[a¦", "[,¦", "[a ¦b]", "[¦}", "[¦)", "[a¦}", "[...¦]", "[...¦, a]", "[...¦...a]", "[¦;]", "[a¦: b]", "[a]¦]", "[¦if]")
}

func TestObjects(t *testing.T) { // P7.2
	wantExpr(t, "{}", "Object@0")
	wantExpr(t, "{a: 1, 'b c': 2, 3: d, [e]: f, if: g,}", "Object@0(Prop@1(Text@1:a Num@4#1) Prop@7(Text@7:b c Num@14#2) Prop@17(Num@17#3 Name@20:d) Prop@23!1(Name@24:e Name@28:f) Prop@31(Text@31:if Name@35:g))")
	wantExpr(t, "{a: b = c, [d = e]: (f, g), let: h, yield: i}", "Object@0(Prop@1(Text@1:a Assign@4:=(Name@4:b Name@8:c)) Prop@11!1(Assign@12:=(Name@12:d Name@16:e) Seq@21(Name@21:f Name@24:g)) Prop@28(Text@28:let Name@33:h) Prop@36(Text@36:yield Name@43:i))")
	wantExpr(t, "{a, get, of,}", "Object@0(Prop@1#3(Text@1:a) Prop@4#3(Text@4:get) Prop@9#3(Text@9:of))")
	wantExpr(t, "{...a, ...{b}, ...c = d}", "Object@0(Prop@1#4(Name@4:a) Prop@7#4(Object@10(Prop@11#3(Text@11:b))) Prop@15#4(Assign@18:=(Name@18:c Name@22:d)))")
	wantExpr(t, "{get: 1, set: 2}", "Object@0(Prop@1(Text@1:get Num@6#1) Prop@9(Text@9:set Num@14#2))")
	wantExpr(t, "{get, set}", "Object@0(Prop@1#3(Text@1:get) Prop@6#3(Text@6:set))")
	wantExpr(t, "{get() {}, set(a) {}}", "Object@0(Prop@1#5(Text@1:get Func@1#8(Params@4 Block@7)) Prop@11#5(Text@11:set Func@11#8(Params@14(Name@15:a) Block@18)))")
	wantExpr(t, "{get a() {}, set a(b) {}, get 'c'() {}, get 1() {}, set [d]([e]) {}, get if() {}}", "Object@0(Prop@1#1(Text@5:a Func@1#16(Params@6 Block@9)) Prop@13#2(Text@17:a Func@13#32(Params@18(Name@19:b) Block@22)) Prop@26#1(Text@30:c Func@26#16(Params@33 Block@36)) Prop@40#1(Num@44#1 Func@40#16(Params@45 Block@48)) Prop@52#2!1(Name@57:d Func@52#32(Params@59(ArrPat@60(Name@61:e)) Block@65)) Prop@69#1(Text@73:if Func@69#16(Params@75 Block@78)))")
	wantExpr(t, "{get get() {}, set set(a = 1) {}}", "Object@0(Prop@1#1(Text@5:get Func@1#16(Params@8 Block@11)) Prop@15#2(Text@19:set Func@15#32(Params@22(Default@23(Name@23:a Num@27#1)) Block@30)))")
	wantExpr(t, "{get\na() {}}", "Object@0(Prop@1#1(Text@5:a Func@1#16(Params@6 Block@9)))")
	wantExpr(t, "{a(b, c = 1, ...d) {}, *e() {}, 'f'() {}, 1() {}, [g]() {}, *[h]() {}, *if() {}}", "Object@0(Prop@1#5(Text@1:a Func@1#8(Params@2(Name@3:b Default@6(Name@6:c Num@10#1) Rest@13(Name@16:d)) Block@19)) Prop@23#5(Text@24:e Func@23#12(Params@25 Block@28)) Prop@32#5(Text@32:f Func@32#8(Params@35 Block@38)) Prop@42#5(Num@42#1 Func@42#8(Params@43 Block@46)) Prop@50#5!1(Name@51:g Func@50#8(Params@53 Block@56)) Prop@60#5!1(Name@62:h Func@60#12(Params@64 Block@67)) Prop@71#5(Text@72:if Func@71#12(Params@74 Block@77)))")
}

func TestNoObjects(t *testing.T) { // P7.2
	noExpr(t, "{¦", "{a¦", "{a ¦b}", "{¦, a}", "{a,¦, b}", "{a: ¦}", "{a: ¦, b}", "{a: b ¦c}", "{a: b¦", "{a¦]", "{¦(}", "{a¦; b}", "{a ¦=> b}", "{a ¦+= b}", "{a ¦+ b}", "{¦+ a}", "{a}¦}")
	noExpr(t, "{if¦}", "{if¦, a}", "{if ¦= a}", "{let¦}", "{let¦, a}", "{let ¦= a}", "{'a'¦}", "{'a' ¦= b}", "{1¦}", "{1¦, a}", "{[a]¦}", "{[a]¦, b}", "{[a] ¦= b}", "{[¦]: a}", "{[a¦, b]: c}", "{[a¦: b}", "{[¦...a]: b}", "{...¦}", "{...¦, a}", "{...¦...a}")
	noExpr(t, "{get ¦*a() {}}", "{get a¦}", "{get a¦: b}", "{get a ¦= b}", "{get a(¦b) {}}", "{get a(¦...b) {}}", "{get a(¦,) {}}", "{get a() ¦=> b}", "{get a()¦}", "{get ¦+}", "{get a ¦b() {}}", "{*get ¦a() {}}", "{'get' ¦a() {}}")
	noExpr(t, "{set a(¦) {}}", "{set a(¦...b) {}}", "{set a(b¦, c) {}}", "{set a(b¦,) {}}", "{set a(¦1) {}}", "{set a(b) ¦b}", "{set a¦}", "{set a(b = ¦) {}}")
	noExpr(t, "{*¦}", "{*a¦}", "{*a¦: b}", "{*¦*a() {}}", "{a()¦}", "{a() ¦=> b}", "{a(¦1) {}}", "{a(b ¦c) {}}", "{async ¦a() {}}", "{static ¦a() {}}", "{a() {} ¦b() {}}", "{a() {¦", "{a(¦")
}

func TestMembersAndCalls(t *testing.T) { // P7.2
	wantExpr(t, "a.b", "Dot@0:b(Name@0:a)")
	wantExpr(t, "a.if.let.of", "Dot@0:of(Dot@0:let(Dot@0:if(Name@0:a)))")
	wantExpr(t, " (a).b", "Dot@2:b(Name@2:a)")
	wantExpr(t, "1.a", "Dot@0:a(Num@0#1)")
	wantExpr(t, "a[b, c]", "Index@0(Name@0:a Seq@2(Name@2:b Name@5:c))")
	wantExpr(t, "a(b, ...c, d,)", "Call@0(Name@0:a Name@2:b Spread@5(Name@8:c) Name@11:d)")
	wantExpr(t, "a(...b = c,)", "Call@0(Name@0:a Spread@2(Assign@5:=(Name@5:b Name@9:c)))")
	wantExpr(t, "a.b[c](d).e", "Dot@0:e(Call@0(Index@0(Dot@0:b(Name@0:a) Name@4:c) Name@7:d))")
	wantExpr(t, "(function () {})()", "Call@1(Func@1(Params@10 Block@13))")
	wantExpr(t, "function () {}()", "Call@0(Func@0(Params@9 Block@12))")
	wantExpr(t, "a\n(b)\n[c]\n.d", "Dot@0:d(Index@0(Call@0(Name@0:a Name@3:b) Name@7:c))")
	noExpr(t, "a.¦", "a.¦1", "a.¦'b'", "a.¦(b)", "a.¦.b", "a.¦[b]", "a[¦]", "a[b¦", "a[b¦)", "a[b ¦c]", "a[¦...b]", "a(¦", "a(b¦", "a(¦, b)", "a(b,¦, c)", "a(b ¦c)", "a(...¦)", "a(b¦]", "a(b¦; c)", "a.b ¦1")
}

func TestOptionalChains(t *testing.T) { // P7.2
	wantExpr(t, "a?.b", "Chain@0(Dot@0#1:b(Name@0:a))")
	wantExpr(t, "a?.if", "Chain@0(Dot@0#1:if(Name@0:a))")
	wantExpr(t, "a?.[b, c]", "Chain@0(Index@0#1(Name@0:a Seq@4(Name@4:b Name@7:c)))")
	wantExpr(t, "a?.(b, ...c)", "Chain@0(Call@0#1(Name@0:a Name@4:b Spread@7(Name@10:c)))")
	wantExpr(t, "a?.b.c?.[d](e)", "Chain@0(Call@0(Index@0#1(Dot@0:c(Dot@0#1:b(Name@0:a)) Name@9:d) Name@12:e))")
	wantExpr(t, "a.b(c)?.()", "Chain@0(Call@0#1(Call@0(Dot@0:b(Name@0:a) Name@4:c)))")
	wantExpr(t, " (a?.b).c", "Dot@2:c(Chain@2(Dot@2#1:b(Name@2:a)))")
	wantExpr(t, "(a?.b)?.c", "Chain@1(Dot@1#1:c(Chain@1(Dot@1#1:b(Name@1:a))))")
	wantExpr(t, "!a?.b[c]", "Unary@0:!(Chain@1(Index@1(Dot@1#1:b(Name@1:a) Name@6:c)))")
	noExpr(t, "a?.¦", "a?.¦.b", "a?.¦?.b", "a?.[¦]", "a?.(¦", "a?. ¦1", "a?.¦'b'", "a?.¦{}", "¦?.a", "a?.¦+b")
}

func TestNew(t *testing.T) { // P7.2
	wantExpr(t, "new a", "New@0(Name@4:a)")
	wantExpr(t, "new a()", "New@0(Name@4:a)")
	wantExpr(t, "new a(b, ...c)", "New@0(Name@4:a Name@6:b Spread@9(Name@12:c))")
	wantExpr(t, "new a.b[c, d](e,)", "New@0(Index@4(Dot@4:b(Name@4:a) Seq@8(Name@8:c Name@11:d)) Name@14:e)")
	wantExpr(t, "new new a(b)(c)", "New@0(New@4(Name@8:a Name@10:b) Name@13:c)")
	wantExpr(t, "new new a", "New@0(New@4(Name@8:a))")
	wantExpr(t, "new new a.b().c(d)", "New@0(Dot@4:c(New@4(Dot@8:b(Name@8:a))) Name@16:d)")
	wantExpr(t, "new a().b", "Dot@0:b(New@0(Name@4:a))")
	wantExpr(t, "new (a())()", "New@0(Call@5(Name@5:a))")
	wantExpr(t, "new a()()", "Call@0(New@0(Name@4:a))")
	wantExpr(t, "new a.b().c", "Dot@0:c(New@0(Dot@4:b(Name@4:a)))")
	wantExpr(t, "new a()?.b", "Chain@0(Dot@0#1:b(New@0(Name@4:a)))")
	wantExpr(t, "new (a?.b)", "New@0(Chain@5(Dot@5#1:b(Name@5:a)))")
	wantExpr(t, "new function () {}", "New@0(Func@4(Params@13 Block@16))")
	wantExpr(t, " new [a](b)", "New@1(Array@5(Name@6:a) Name@9:b)")
	wantExpr(t, "-new a + b", "Binary@0:+(Unary@0:-(New@1(Name@5:a)) Name@9:b)")
	noExpr(t, "new ¦", "new ¦;", "new¦.a", "new a¦?.b", "new a¦?.()", "new a.b¦?.c", "new new a()¦?.b", "new ¦-a", "new ¦typeof a", "new a(¦", "new a.¦", "new a ¦b", "new ¦let", "new a ¦=> b", "new ¦++a")
}

func TestUnary(t *testing.T) { // P7.2
	wantExpr(t, "-a", "Unary@0:-(Name@1:a)")
	wantExpr(t, " typeof void delete a", "Unary@1:typeof(Unary@8:void(Unary@13:delete(Name@20:a)))")
	wantExpr(t, "!~+a", "Unary@0:!(Unary@1:~(Unary@2:+(Name@3:a)))")
	wantExpr(t, "- -a", "Unary@0:-(Unary@2:-(Name@3:a))")
	wantExpr(t, "+ ++a", "Unary@0:+(Update@2#1:++(Name@4:a))")
	wantExpr(t, "-a.b", "Unary@0:-(Dot@1:b(Name@1:a))")
	wantExpr(t, "-a++", "Unary@0:-(Update@1:++(Name@1:a))")
	wantExpr(t, "-a * b", "Binary@0:*(Unary@0:-(Name@1:a) Name@5:b)")
	noExpr(t, "-¦", "!¦;", "typeof ¦", "- ¦let", "a ¦!b", "a ¦typeof b", "a ¦~b", "- ¦* a", "delete¦, a")
}

func TestUpdates(t *testing.T) { // P7.2
	wantExpr(t, "++a", "Update@0#1:++(Name@2:a)")
	wantExpr(t, " --a.b", "Update@1#1:--(Dot@3:b(Name@3:a))")
	wantExpr(t, "++a[b]", "Update@0#1:++(Index@2(Name@2:a Name@4:b))")
	wantExpr(t, "++\na", "Update@0#1:++(Name@3:a)")
	wantExpr(t, "a++", "Update@0:++(Name@0:a)")
	wantExpr(t, "a.b--", "Update@0:--(Dot@0:b(Name@0:a))")
	wantExpr(t, "a() [b]++", "Update@0:++(Index@0(Call@0(Name@0:a) Name@5:b))")
	wantExpr(t, " (a)++", "Update@2:++(Name@2:a)")
	wantExpr(t, " ++(a)", "Update@1#1:++(Name@4:a)")
	wantExpr(t, "a+++b", "Binary@0:+(Update@0:++(Name@0:a) Name@4:b)")
	noExpr(t, "++¦", "++¦)", "a++ ¦++", "a++ ¦b", "a++¦(b)", "a++¦.b", "a\n¦++", "a--\n¦--")
	noTarget(t, "++¦1", "¦1++", "++¦a()", "¦a()--", "¦a?.b++", "--¦a?.b", "++¦[a]", "¦[a]++", "++¦{}", "++¦-a", "++¦++a", "++¦a++", "++(¦a, b)", "(¦a, b)++", "¦new a++", "¦this++", "(¦a = b)++", "¦`a`++", "(¦function () {})++", "¦1++ )", "++¦1 )", "--(¦1)")
}

func TestBinary(t *testing.T) { // P7.2
	wantExpr(t, "a + b", "Binary@0:+(Name@0:a Name@4:b)")
	wantExpr(t, " (a) + b", "Binary@2:+(Name@2:a Name@7:b)")
	wantExpr(t, "(a + b) * c", "Binary@1:*(Binary@1:+(Name@1:a Name@5:b) Name@10:c)")
	wantExpr(t, "a in b", "Binary@0:in(Name@0:a Name@5:b)")
	wantExpr(t, "a instanceof b", "Binary@0:instanceof(Name@0:a Name@13:b)")
	wantExpr(t, "a && b || c", "Logic@0:||(Logic@0:&&(Name@0:a Name@5:b) Name@10:c)")
	wantExpr(t, "a + -b", "Binary@0:+(Name@0:a Unary@4:-(Name@5:b))")
	wantExpr(t, "a\n+ b", "Binary@0:+(Name@0:a Name@4:b)")
	noExpr(t, "a +¦", "a + ¦* b", "¦* a", "a * ¦* b", "a + b ¦c", "a + b ¦=> c", "a + (b) ¦=> c", "a + ¦let", "a in¦", "a ¦of b", "a & ¦& b", "a >> ¦> b", "'+' ¦'-'", "a ¦'+' b", "a ¦'??' b")
}

// TestRanks holds every pair of operators against the tree with parentheses where the ranks ask for them.
func TestRanks(t *testing.T) { // P7.2, P7.3
	ops := strings.Fields("?? || && | ^ & == != === !== < > <= >= instanceof in << >> + - * / %")
	for _, x := range ops {
		for _, y := range ops {
			s := "a " + x + " b " + y + " c"
			left := "(a " + x + " b) " + y + " c"
			right := "a " + x + " (b " + y + " c)"
			switch {
			case x == "??" && (y == "||" || y == "&&") || y == "??" && (x == "||" || x == "&&"):
				refuse(t, Expr, "a "+x+" b "+mark+y+" c", api.ErrSyntax)
				accept(t, left, right)
			case Rank(x) >= Rank(y):
				same(t, [2]string{s, left})
			default:
				same(t, [2]string{s, right})
			}
		}
	}
}

func TestMixedLogic(t *testing.T) { // P7.2
	wantExpr(t, "a ?? b ?? c", "Logic@0:??(Logic@0:??(Name@0:a Name@5:b) Name@10:c)")
	wantExpr(t, "a ?? (b || c)", "Logic@0:??(Name@0:a Logic@6:||(Name@6:b Name@11:c))")
	wantExpr(t, "(a && b) ?? c", "Logic@1:??(Logic@1:&&(Name@1:a Name@6:b) Name@12:c)")
	wantExpr(t, "a ?? b | c", "Logic@0:??(Name@0:a Binary@5:|(Name@5:b Name@9:c))")
	wantExpr(t, "a ?? b ? c || d : e && f", "Cond@0(Logic@0:??(Name@0:a Name@5:b) Logic@9:||(Name@9:c Name@14:d) Logic@18:&&(Name@18:e Name@23:f))")
	noExpr(t, "a ?? b ¦|| c", "a ?? b ¦&& c", "a || b ¦?? c", "a && b ¦?? c", "a || b && c ¦?? d", "a && b || c ¦?? d", "a ?? b ?? c ¦|| d", "a ?? b == c ¦&& d", "a ?? b | c ¦|| d", "a ?? b ¦&& c || d", "(a ?? b) || c ¦?? d", "a ?? (b || c) ¦&& d", "a ?? b ¦|| )", "a == b || c ¦?? d", "x = a ?? b ¦|| c", "f(a || b ¦?? c)", "!a ?? b ¦|| c")
}

func TestConditions(t *testing.T) { // P7.2
	wantExpr(t, "a ? b : c", "Cond@0(Name@0:a Name@4:b Name@8:c)")
	wantExpr(t, "a ? b : c ? d : e", "Cond@0(Name@0:a Name@4:b Cond@8(Name@8:c Name@12:d Name@16:e))")
	wantExpr(t, "a ? b ? c : d : e", "Cond@0(Name@0:a Cond@4(Name@4:b Name@8:c Name@12:d) Name@16:e)")
	wantExpr(t, "a ? b = c : d = e", "Cond@0(Name@0:a Assign@4:=(Name@4:b Name@8:c) Assign@12:=(Name@12:d Name@16:e))")
	wantExpr(t, "(a) || b ? c => d : e => f", "Cond@1(Logic@1:||(Name@1:a Name@7:b) Func@11#130(Params@11(Name@11:c) Name@16:d) Func@20#130(Params@20(Name@20:e) Name@25:f))")
	noExpr(t, "a ?¦", "a?¦.5:b", "a ? b¦", "a ? b :¦", "a ? b¦, c : d", "a ? ¦: b", "¦? a : b", "a ? b : c ¦: d", "a ? b¦; : c", "a => {} ¦? b : c")
}

func TestAssignments(t *testing.T) { // P7.2
	wantExpr(t, "a = b", "Assign@0:=(Name@0:a Name@4:b)")
	wantExpr(t, "a.b = c", "Assign@0:=(Dot@0:b(Name@0:a) Name@6:c)")
	wantExpr(t, "a[b] = c", "Assign@0:=(Index@0(Name@0:a Name@2:b) Name@7:c)")
	wantExpr(t, "(a?.b).c = d", "Assign@1:=(Dot@1:c(Chain@1(Dot@1#1:b(Name@1:a))) Name@11:d)")
	wantExpr(t, "a = b = c, d", "Seq@0(Assign@0:=(Name@0:a Assign@4:=(Name@4:b Name@8:c)) Name@11:d)")
	wantExpr(t, "(a) = b", "Assign@1:=(Name@1:a Name@6:b)")
	wantExpr(t, " ((a.b)) = c", "Assign@3:=(Dot@3:b(Name@3:a) Name@11:c)")
	wantExpr(t, "a = b ? c : d", "Assign@0:=(Name@0:a Cond@4(Name@4:b Name@8:c Name@12:d))")
	wantExpr(t, "a = b => c", "Assign@0:=(Name@0:a Func@4#130(Params@4(Name@4:b) Name@9:c))")
	for _, op := range strings.Fields("+= -= *= /= %= &= |= ^= <<= >>= &&= ||= ??=") {
		wantExpr(t, "a.b "+op+"c", "Assign@0:"+op+"(Dot@0:b(Name@0:a) Name@"+strconv.Itoa(4+len(op))+":c)")
		wantExpr(t, "(a)"+op+" b", "Assign@1:"+op+"(Name@1:a Name@"+strconv.Itoa(4+len(op))+":b)")
		refuse(t, Expr, "x, ¦[a] "+op+" b", api.ErrTarget)
		refuse(t, Expr, "x, ¦{a} "+op+" b", api.ErrTarget)
		refuse(t, Expr, "x, ¦a?.b "+op+" )", api.ErrTarget)
	}
	noExpr(t, "a =¦", "a = ¦= b", "a = b¦; c", "¦= a", "a ¦:= b", "a == ¦= b", "a => {} ¦= b", "() => {} ¦+= b", "(a) => {} ¦= b")
}

func TestNoAssignments(t *testing.T) { // P7.2
	noTarget(t, "¦1 = a", "'a'; ¦'b' = c", "¦this = a", "¦a() = b", "¦a + b = c", "¦-a = b", "¦a++ = b", "¦a ? b : c => {} = d", "¦a?.b = c", "¦a?.b.c = d", "¦new a = b", "¦`a` = b", "x = ¦y + z = a", "¦a || b = c", "¦1 = )", "f(¦1 = a)", "x => ¦1 = a", "[¦1 = a]")
	// What is in parentheses is assigned to if it is a simple target alone.
	noTarget(t, "(¦[a]) = b", "(¦{a}) = b", "((¦[a])) = b", "(¦a = b) = c", "(¦a, b) = c", "(¦1) = a", "(¦a => b) = c", "(¦[a = 1]) = b", "(¦a?.b) = c", "(¦a ? b : c) = d")
}

func TestAssignedPatterns(t *testing.T) { // P7.2
	wantExpr(t, "[] = a", "Assign@0:=(ArrPat@0 Name@5:a)")
	wantExpr(t, "[a, b.c, d[e]] = f", "Assign@0:=(ArrPat@0(Name@1:a Dot@4:c(Name@4:b) Index@9(Name@9:d Name@11:e)) Name@17:f)")
	wantExpr(t, "[a = 1, , ...b] = c", "Assign@0:=(ArrPat@0(Default@1(Name@1:a Num@5#1) Hole@8 Rest@10(Name@13:b)) Name@18:c)")
	wantExpr(t, " {a, b: c, d = 1, e: f = 2, [g]: h, ...i} = j", "Assign@1:=(ObjPat@1(PatProp@2(Text@2:a Name@2:a) PatProp@5(Text@5:b Name@8:c) PatProp@11(Text@11:d Default@11(Name@11:d Num@15#1)) PatProp@18(Text@18:e Default@21(Name@21:f Num@25#2)) PatProp@28!1(Name@29:g Name@33:h) Rest@36(Name@39:i)) Name@44:j)")
	wantExpr(t, "[{a: [b] = 1}, ...[c]] = [d] = e", "Assign@0:=(ArrPat@0(ObjPat@1(PatProp@2(Text@2:a Default@5(ArrPat@5(Name@6:b) Num@11#1))) Rest@15(ArrPat@18(Name@19:c))) Assign@25:=(ArrPat@25(Name@26:d) Name@31:e))")
	wantExpr(t, "[(a), (b.c), (d = 1)] = e", "Assign@0:=(ArrPat@0(Name@2:a Dot@7:c(Name@7:b) Default@14(Name@14:d Num@18#1)) Name@24:e)")
	// A comma behind the last element is ignored, and so are parentheses within the pattern.
	wantExpr(t, "[...a,] = b", "Assign@0:=(ArrPat@0(Rest@1(Name@4:a)) Name@10:b)")
	wantExpr(t, "[([a])] = b", "Assign@0:=(ArrPat@0(ArrPat@2(Name@3:a)) Name@10:b)")
	noTarget(t, "¦[a, 1] = c", "¦[...a, b] = c", "¦[...a = b] = c", "¦[a()] = b", "¦[a?.b] = c", "¦[[a, [1]]] = b", "¦[a += b] = c", "¦[(a, b)] = c", "¦[...a, ,] = b", "x = ¦[1] = a", "¦[(a + b)] = c", "¦[{a}, {b: 1}] = c")
	noTarget(t, "(¦{a: 1} = b)", "(¦{a() {}} = b)", "(¦{get a() {}} = b)", "(¦{set a(b) {}} = c)", "(¦{...a, b} = c)", "(¦{...[a]} = b)", "(¦{...{a}} = b)", "(¦{...a = b} = c)", "(¦{a: b()} = c)", "(¦{a: b?.c} = d)")
}

func TestDeepAssignment(t *testing.T) { // P7.1, P7.2
	deep := func(count int) string { return strings.Repeat("[", count) + strings.Repeat("]", count) }
	refuse(t, Program, "a; ¦"+deep(201)+" = b", api.ErrDeep)
	refuse(t, Program, "a; ¦"+deep(201)+" = )", api.ErrDeep)
	refuse(t, Program, "(¦{a: "+deep(199)+"} = b", api.ErrDeep)
	refuse(t, Program, "¦a; "+deep(200)+" = b", api.ErrDeep)
	refuse(t, Program, "a; "+deep(200)+" = ¦)", api.ErrSyntax)
	refuse(t, Program, "for (¦"+deep(201)+" of a) b", api.ErrTarget)
	refuse(t, Expr, "¦"+deep(200)+" = b", api.ErrDeep)
	for _, s := range []string{deep(199) + " = b", "[" + deep(198) + "] = b"} {
		if n, at, e := Expr(s); n.Op != api.NAssign || at != 0 || e != api.OK {
			t.Errorf("%.20s: %d at %d", s, e, at)
		}
	}
}

func TestDefaults(t *testing.T) { // P7.2
	accept(t, "({a = 1} = b)", "[{a = 1}] = b", "[{a = 1}, {b = 2}] = c", "({a: {b = 1}} = c)", "({a: [{b = 1}]} = c)", "[...{a = 1}] = b", "[...[{a = 1}]] = b", "[x = {a = 1} = b]", "[{a = 1} = b]", "({a: {b = 1} = c})", "x = {a = 1} = b", "f({a = 1} = b)", "!function () { ({a = 1} = b) }", "[{a = 1}, b, [c]] = d", "x ? {a = 1} = b : {c = 2} = d", "`${{a = 1} = b}`", "({[{a = 1} = b]: c})", "({a = {b = 1} = c} = d)")
	accept(t, "({a = 1}) => b", "({a = 1}, [{b = 2}]) => c", "x = ({a = 1} = {}) => b", "for ({a = 1} of b) c", "for ({a = 1} in b) c", "for ([{a = 1}] of b) c", "for ({a = 1} = b; ; ) c", "for (x of {a = 1} = b) c", "({x() {for ({a = 1} of b) c}})", "[function () {for ([{a = 1}] in b) c}]", "[({a = 1}) => b]", "[{a = 1}, x[function () {[b]; (c); for ({d = 1} of e) f}]] = g", "[{a = 1}, (b)] = c", "[{a = 1}, [b]] = c", "({a = 1, b: c, ...(d)} = e)")
	noExpr(t, "({a ¦= 1})", "{a ¦= 1}", "{a, b ¦= 1, c = 2}", "[{a ¦= 1}]", "[{a ¦= 1}].b", "[{a ¦= 1}.b] = c", "{a: {b ¦= 1}}", "{a: {b ¦= 1}.c} = d", "[...{a ¦= 1}]", "{...{a ¦= 1}}", "({a ¦= 1}) = b", "[({a ¦= 1})] = b", "[({a ¦= 1}, b)] = c", "({a ¦= 1}, b)", "(b, {a ¦= 1})", "[x = {a ¦= 1}] = b", "{a = {b ¦= 1}} = c", "x = {a ¦= 1}", "x + {a ¦= 1}", "[-{a ¦= 1}] = b", "[new {a ¦= 1}] = b", "{a ¦= 1} += b", "{a ¦= 1} == b", "{a ¦= 1}, b", "{a ¦= 1} => b", "{a ¦= 1}()", "{a ¦= 1}?.b", "{a ¦= 1}++", "{a ¦= 1} in b", "{a ¦= 1} of b")
	noExpr(t, "f({a ¦= 1})", "f([{a ¦= 1}])", "f(...{a ¦= 1})", "new f({a ¦= 1})", "a[{b ¦= 1}]", "`${{a ¦= 1}}`", "{[{a ¦= 1}]: b}", "a ? {b ¦= 1} : c", "a ? {b ¦= 1}) : c", "{[{a ¦= 1}]: b} = c", "a ? b : {c ¦= 1}", "a => ({b ¦= 1})", "a => [{b ¦= 1}]", "(a = {b ¦= 1}) => c", "([a = {b ¦= 1}]) => c", "a + ({b ¦= 1}) => c", "({a ¦= 1})\n=> b", "{a() {x = {b ¦= 1}}} = c")
	noProgram(t, "if ({a ¦= 1}) b", "while ({a ¦= 1}) b", "switch ({a ¦= 1}) {}", "throw {a ¦= 1}", "return {a ¦= 1}", "var a = {b ¦= 1}", "var [a = {b ¦= 1}] = c", "({a ¦= 1});", "[{a ¦= 1}];", "[{a ¦= 1}]", "function* f() {yield {a ¦= 1}}", "function f(a = {b ¦= 1}) {}", "x = {a ¦= 1}\n")
	noProgram(t, "for ({a ¦= 1}; ; ) b", "for ({a ¦= 1}, b; ; ) c", "for ({a ¦= 1}.b of c) d", "for ([{a ¦= 1}].b of c) d", "for (({a ¦= 1}) of b) c", "for (([{a ¦= 1}]) in b) c", "for (a, {b ¦= 1} of c) d", "for (x = {a ¦= 1} of b) c", "for (-{a ¦= 1} of b) c", "for (a of {b ¦= 1}) c", "for (a in {b ¦= 1}) c", "for (a; {b ¦= 1}; ) c", "for (f({a ¦= 1}) of b) c", "for ({a ¦= 1} + b of c) d")
}

func TestFirstOfDefaults(t *testing.T) { // P7.2
	// The first default that is in no pattern is at fault.
	noExpr(t, "[{a ¦= 1}, {b = 2}]", "{a ¦= 1, b = 2}", "[{a = 1} = x, {b ¦= 2}]", "{a: {b = 1} = c, d ¦= 2, e = 3}", "[{a ¦= 1}, [b], (c), {d}, {e = 2}]", "[[{a ¦= 1}], {b = 2}]", "({a ¦= 1}, {b = 2})", "{a ¦= {b = 1} = c, d = 2}", "{a ¦= [{b = 1}] = c}", "{a = {b ¦= 1}, c = 2}")
	// It is at fault when the literal or the closing parenthesis has been read, not ahead of that.
	noExpr(t, "({a = 1}, b ¦c)", "({a = 1}, {b ¦= 2} c)", "[{a = 1}, b ¦c]", "[{a = 1}¦}", "({a = 1}¦]", "({a = 1}, ¦)", "({a ¦= 1}.b, c d)", "{a = 1 ¦b}", "({a ¦= 1}", "[{a ¦= 1}", "[{a ¦= 1};", "[{a ¦= 1}]]", "[{a = 1}, (b ¦c)]", "[{a = 1}, {b ¦= 2}.c]")
	noTarget(t, "¦[{a = 1}, 1] = b", "[{a = 1}, ¦x + {b = 2} = c] = d", "¦-{a = 1} = b", "x = ¦y + {a = 1} = b", "(¦new {a = 1} = b)", "(¦{...{a = 1}} = b)", "for (¦[{a = 1}, 1] of b) c", "for (¦{a = 1} = b of c) d")
}
