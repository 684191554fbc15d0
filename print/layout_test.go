package print

import (
	"pantomime/api"
	"strings"
	"testing"
)

func TestExamples(t *testing.T) { // P9.1
	turned(t, "a=b+(c,d);", "a = b + (c, d);")
	kept(t, "new (a().b)();", "(a ?? b) || c;")
	turned(t, "new a.b()", "new a.b();")
	turned(t, "(a??b)||c", "(a ?? b) || c;")
	turned(t, "({}).a;", "({}.a);")
}

func TestStatements(t *testing.T) { // P9.1
	if s, e := Program(of(api.NProgram, 0, "")); s != "" || e != api.OK {
		t.Errorf("no statement: %q %d", s, e)
	}
	turned(t, "a\nb;;c", "a;\nb;\n;\nc;")
	kept(t, "{ }", "{ a; }", "{ a; { b; { } } c; }", ";", "var a;", "var a = 1, b, [c] = d, {e: e} = f;", "let a;", "let a = (b, c), d = e = f;", "const a = b in c, d = 2;", "a;", "a, b;")
	kept(t, "if (a) b;", "if (a, b) c; else d;", "if (a) { b; } else if (c) ; else { }", "if (a) { if (b) c; } else d;", "if (a) if (b) c; else d;")
	kept(t, "while (a, b) c;", "while (a) ;", "do a; while (b);", "do { a; } while (b, c);", "do do ; while (a); while (b);", "a: ;", "a: b: { c; }", "a: while (b) continue a;")
	kept(t, "break;", "break a;", "continue;", "continue a;", "return;", "return a, b;", "throw a, b;", "throw {};")
	kept(t, "try { } catch { }", "try { a; } catch (b) { c; }", "try { } catch ([a, {b: c}]) { }", "try { } finally { a; }", "try { } catch (a) { } finally { }", "try { } catch { a; } finally { b; }")
	kept(t, "switch (a, b) { }", "switch (a) { case b: }", "switch (a) { case b, c: d; e; default: case f: { } }", "switch (a) { default: a; break; }")
	turned(t, "do a; while (b) c", "do a; while (b);\nc;")
	turned(t, "switch (a) {case b: default: c}", "switch (a) { case b: default: c; }")
}

func TestForLoops(t *testing.T) { // P9.1
	kept(t, "for (; ; ) ;", "for (; ; ) { a; }", "for (a; b; c) d;", "for (a, b; c, d; e, f) ;", "for (var a; b; ) ;", "for (let a = 1, b = 2; ; c) ;", "for (const a = 1; a; ) { }", "for (var [a] = b; ; ) ;")
	kept(t, "for (a in b) ;", "for (a in b, c) d;", "for (a of b) ;", "for (a of (b, c)) ;", "for (a of b = c) ;", "for (var a in b) ;", "for (let a of b) { }", "for (const [a, b] of c) ;", "for (let {a: b} in c) ;", "for (a.b of c) ;", "for (a[b, c] in d) ;", "for ([a, b] of c) ;", "for ({a: b = 1, ...c} in d) ;", "for (of of of) ;", "for ((a, b).c of d) ;", "for (var of of a) ;")
	kept(t, "for (a in b in c) ;", "for (a of b in c) ;", "for (a of (b) => c) ;", "for ({}.a of b) ;", "for (function() { }.a of b) ;")
	turned(t, "for(;;)for(a;;)for(;a;)for(;;a);", "for (; ; ) for (a; ; ) for (; a; ) for (; ; a) ;")
	// The init part is no statement.
	kept(t, "for ({}; ; ) ;", "for ({}.a; ; ) ;", "for (function() { }; ; ) ;", "for ({a: b} = c; ; ) ;")
}

func TestInInHeads(t *testing.T) { // P9.1
	kept(t, "for ((a in b); ; ) ;", "for (c, (a in b); ; ) ;", "for (var c = (a in b), d = (e in f); ; ) ;", "for (let c = 1 + (a in b); ; ) ;", "for (c = (a in b) ? 1 : 2; ; ) ;", "for ((a in b) + 1; ; ) ;", "for (!(a in b); ; ) ;", "for (((a in b) in c); ; ) ;")
	turned(t, "for (a[b in c];;);", "for (a[(b in c)]; ; ) ;")
	turned(t, "for (a(b in c, `${d in e}`, [f in g], {h: i in j, [k in l]: 1});;);", "for (a((b in c), `${(d in e)}`, [(f in g)], {h: (i in j), [(k in l)]: 1}); ; ) ;")
	turned(t, "for (a ? b in c : d;;);", "for (a ? (b in c) : d; ; ) ;")
	turned(t, "for (var [a = b in c] = d;;);", "for (var [a = (b in c)] = d; ; ) ;")
	turned(t, "for (a => (b in c);;);", "for ((a) => (b in c); ; ) ;")
	turned(t, "for (a => ({} in c);;);", "for ((a) => ({} in c); ; ) ;")
	turned(t, "for ((a = b in c) => {d in e};;);", "for ((a = (b in c)) => { d in e; }; ; ) ;")
	turned(t, "for (function(a = b in c) {d in e; for ((f in g);;h in i);};;);", "for (function(a = (b in c)) { d in e; for ((f in g); ; h in i) ; }; ; ) ;")
	turned(t, "for (a = function() {}, [b in c];;);", "for (a = function() { }, [(b in c)]; ; ) ;")
	turned(t, "for ({get a() {return b in c}, d: e in f};;);", "for ({get a() { return b in c; }, d: (e in f)}; ; ) ;")
	// Elsewhere the operator needs none.
	kept(t, "for (; a in b; c in d) e in f;", "for (a of b in c) d in e;", "for (a in b in c) ;", "for (a[b in c] of d) ;", "for ([a = b in c] of d) ;", "for (let [a = b in c] of d) ;", "a in b;", "while (a in b) c in d;", "for (; ; ) { a in b; }", "for (a instanceof b; ; ) ;")
}

func TestFunctions(t *testing.T) { // P9.1
	kept(t, "function a() { }", "function* a() { }", "function a(b, c = 1, [d], ...e) { return b; }", "function a() { \"use strict\"; }", "a = function() { };", "a = function* b() { yield; };", "a = function(b = (c, d)) { };", "function a({b: b = c}) { }")
	kept(t, "() => { };", "() => a;", "(a) => a;", "(a, b) => { return a; };", "(a = 1, {b: c}, ...d) => a;", "(a) => (b) => c;", "(a) => (b, c);", "(a) => b = c;", "a = (b) => c;", "(...a) => a;")
	turned(t, "a=>b", "(a) => b;")
	turned(t, "a=>({})", "(a) => ({});")
	turned(t, "a=>({}.b)", "(a) => ({}.b);")
	turned(t, "a=>({}).b+1", "(a) => ({}.b + 1);")
	turned(t, "a=>({b}=c)", "(a) => ({b: b} = c);")
	turned(t, "a=>({},b)", "(a) => ({}, b);")
	turned(t, "a=>b=>({})", "(a) => (b) => ({});")
	kept(t, "(a) => function() { };", "(a) => [{}];", "(a) => `{`;", "(a) => { ({}); };", "(a) => \"{\";", "(a) => a({});")
}

func TestExpressionStatements(t *testing.T) { // P9.1
	kept(t, "(function() { });", "(function a() { });", "(function* a() { });", "(function() { }());", "(function() { }.a + 1);", "(function() { }, a);", "({});", "({}.a);", "({a: b}.c = d);", "({a: b} = c);", "({} + {});", "({}, a);", "({} ? a : b);", "({}());", "({}[a]++);", "({}?.a);")
	kept(t, "functions;", "function_();", "function1;", "$function;", "[function() { }];", "a = function() { };", "a = {};", "!function() { }();", "`{`;", "\"{\";", "\"function\";", "(a, function() { })();", "new function() { }();", "[{}];", "() => { };", "(a, {}).b;", "-{};")
	turned(t, "(function(){})()", "(function() { }());")
	turned(t, "(function(){}()).a", "(function() { }().a);")
	turned(t, "{({})} if (a) ({}); else (function(){})", "{ ({}); }\nif (a) ({}); else (function() { });")
	// Only a statement has them.
	kept(t, "return {};", "return function() { };", "throw function() { };", "if ({}) ;", "switch ({}) { case {}: case function() { }: }", "var a = {};", "for (a of {}) ;", "while (function() { }) ;")
	keptExpr(t, "{}", "{}.a", "function() { }", "function() { }()", "{a: b} = c", "function* a() { }, b")
}

func TestLiterals(t *testing.T) { // P9.1
	kept(t, "0;", "9007199254740992;", "true;", "false;", "null;", "this;", "a;", "$_a1;", "\"\";", "\"a\\n\\t\\r\\0\\\"\\\\'`$ \\x01\\x7f\\xff\";", "``;", "`a${b}c`;", "`${a}${b, c}`;", "`\\`\\$\"'\\\\\\n\\t\\r\\0\\x01\\x7f\\xff{}`;", "`${{}}`;", "`\\${`;", "`a${`b${c}`}`;", "`${(a) => ({})}`;")
	turned(t, "0x1F", "31;")
	turned(t, "'a\"'", "\"a\\\"\";")
	turned(t, "`\n\"$a${b}\\x41`", "`\\n\"\\$a${b}A`;")
	turned(t, "'\\x7e\\x20\\x1f\xc3\xa9'", "\"~ \\x1f\\xc3\\xa9\";")
	kept(t, "[];", "[a];", "[a, b];", "[,];", "[a, ,];", "[, a];", "[a, , b];", "[, ,];", "[...a];", "[...a, ...b, ,];", "[(a, b), ...(c, d), e = f];", "[...a = b];", "[, ...a];")
	turned(t, "[a,]", "[a];")
	turned(t, "[a,,]", "[a, ,];")
	turned(t, "[,,]", "[, ,];")
}

func TestObjects(t *testing.T) { // P9.1
	kept(t, "({a: b});", "({a});", "({a, b, get, set, of});", "({...a});", "({...a = b, ...(c, d)});", "({1: a, \"b c\": d, [e]: f, if: g, \"\": h, \"1a\": i, $: j, \"a\\n\": k});", "({[(a, b)]: (c, d)});", "({[a = b]: c = d});", "({get a() { }, set a(b) { }, get [a]() { }, set 1([b]) { }, get \"c d\"() { }, set if(b = 1) { }});", "({a() { }, *b(c, ...d) { }, [e]() { }, *[f]() { }, 1() { }, \"g h\"() { }, *\"\"() { }});", "({get() { }, set() { }, get: a, set: b});", "({get get() { }, set set(a) { }, *get() { }});")
	turned(t, "({'a': b, \"if\": c, 'a b': d, 0x10: e, ['f']: g, 'get': h,})", "({a: b, if: c, \"a b\": d, 16: e, [\"f\"]: g, get: h});")
	turned(t, "({'a'() {}, get 'b'() {}, let: c})", "({a() { }, get b() { }, let: c});")
	kept(t, "[a, , b = c, ...d] = e;", "[,] = a;", "[a, ,] = b;", "[[a], {b: c}] = d;", "[a.b, c[d] = e, ...f.g] = h;", "[...[a]] = b;", "({a: b, [c]: d = e, 1: f, \"g h\": i, ...j} = k);", "({a: a, a: b.c, ...d.e} = f);", "[a = (b, c)] = d;", "({[(a, b)]: c = (d, e)} = f);")
	turned(t, "({a, b = 1} = c)", "({a: a, b: b = 1} = c);")
	turned(t, "var {a, b = 1, 'c': d, ...e} = f", "var {a: a, b: b = 1, c: d, ...e} = f;")
	turned(t, "var [a, , b = c, ...[d]] = e, [,] = f", "var [a, , b = c, ...[d]] = e, [,] = f;")
}

func TestOperators(t *testing.T) { // P9.1
	for _, op := range strings.Fields("| ^ & == != === !== < > <= >= instanceof in << >> + - * / % && || ?? = += -= *= /= %= &= |= ^= <<= >>= &&= ||= ??=") {
		kept(t, "a "+op+" b;")
	}
	kept(t, "delete a;", "void a;", "typeof a;", "+a;", "-a;", "!a;", "~a;", "typeof void delete a;", "!~!a;", "delete (a, b);", "typeof (a + b);", "typeof typeof a;", "typeof [];", "void \"a\";")
	kept(t, "- -a;", "+ +a;", "-+a;", "+-a;", "- --a;", "+ ++a;", "-++a;", "+--a;", "-a--;", "- -a--;", "- - -1;", "-(a, b);", "-(-a + b);", "!-a;", "- -1 - -1;", "-~-a;", "+ +`+`;", "-\"-\";")
	kept(t, "++a;", "--a;", "a++;", "a--;", "++a.b;", "a[b]++;", "++a[b].c;", "-a++;", "a++ + ++b;", "a - -b;", "a-- - --b;", "(a, b).c++;")
	kept(t, "a ? b : c;", "a ? b ? c : d : e ? f : g;", "a ? b = c : d = e;", "a ? (b, c) : (d, e);", "a ? (b) => c : (d) => e;", "a, b, c;")
	turned(t, "-(-a)", "- -a;")
	turned(t, "- (+a)", "-+a;")
	turned(t, "a+(+b)", "a + +b;")
	turned(t, "typeof(a)", "typeof a;")
	kept(t, "function* a() { yield; yield b; yield* b; yield yield b; yield (b, c); yield b = c; b = yield; b = yield* yield; }", "function* a() { yield, b; (yield) + 1; b + (yield c); (yield) ? b : c; !(yield); (yield).b; b[yield]; }")
	kept(t, "function* a() { [yield, yield b]; b(yield, ...yield); ({c: yield, [yield]: d}); `${yield}`; b ? yield : yield c; (d) => yield; }", "function* a() { return yield; }", "yield + yield;", "yield;")
}

func TestLinks(t *testing.T) { // P9.1
	kept(t, "a();", "a(b);", "a(b, ...c, d);", "a((b, c), d = e, (f) => g);", "a.b;", "a.if;", "a[b];", "a[b, c];", "a.b.c[d]()().e;", "1.a;", "\"a\".b;", "`a`.b;", "[].a;", "this.a;", "null.a;")
	kept(t, "a?.b;", "a?.[b];", "a?.(b, ...c);", "a?.();", "a?.b.c;", "a.b?.c?.d();", "a?.b[c](d)?.[e]?.(f).g;", "(a?.b).c;", "(a?.b)();", "(a?.b)[c];", "(a?.b)?.c;", "((a?.b).c?.d)();", "delete a?.b;", "-a?.b;", "a?.b + c?.d;", "(a + b)?.c;", "1?.a;", "a?.b ? c : d;", "(a ?? b)?.c;")
	kept(t, "new a();", "new a(b, ...c, (d, e));", "new a.b();", "new a[b]();", "new a.b[c].d();", "new a().b;", "new a()();", "new a()()();", "new new a()();", "new new a().b();", "new new a().b()().c;", "new (a())();", "new (a().b)();", "new (a()[b].c)(d);", "new (a.b().c)();", "new (a?.b)();", "new (a?.b).c();", "new (a?.b)[c].d();", "new a[b()]();", "new a[b?.c]();", "new (a, b)();", "new (a, b).c();", "new (-a)();", "new ((a) => b)();", "new function() { }();", "new function() { }().a;", "new {}();", "new [].a();", "new `a`();", "new this();", "new \"a\"();", "new (a ? b : c).d();", "new a()?.b;", "new a(b(), c?.d);", "new (new a()())();", "new (new a().b().c)();")
	turned(t, "new a", "new a();")
	turned(t, "new new a", "new new a()();")
	turned(t, "new (a.b)", "new a.b();")
	turned(t, "new ((a))", "new a();")
	turned(t, "(new a).b", "new a().b;")
	turned(t, "(a.b).c", "a.b.c;")
	turned(t, "(a?.b)", "a?.b;")
	turned(t, "new (new a)", "new new a()();")
	turned(t, "new (new a().b)", "new new a().b();")
}

func TestUnparsable(t *testing.T) { // P9.1
	// What the parser can't give is written by the same rules.
	e, s, a := of(api.NEmpty, 0, ""), of(api.NBlock, 0, ""), name("a")
	printed(t, of(api.NIf, 0, "", a, of(api.NIf, 0, "", a, e), e), "if (a) if (a) ; else ;")
	printed(t, of(api.NIf, 0, "", a, of(api.NVar, 1, "", of(api.NDecl, 0, "", a))), "if (a) let a;")
	printed(t, of(api.NExpr, 0, "", name("let")), "let;")
	printed(t, of(api.NExpr, 0, "", name("function")), "(function);")
	printed(t, of(api.NExpr, 0, "", of(api.NYield, 1, "", a)), "yield* a;")
	printed(t, of(api.NVar, 0, "", of(api.NDecl, 0, "", of(api.NObjPat, 0, ""))), "var {};")
	printed(t, of(api.NLabel, 0, "if", of(api.NFunc, api.FDecl, "in", of(api.NParams, 0, ""), s)), "if: function in() { }")
	printed(t, of(api.NExpr, 0, "", of(api.NFunc, api.FArrow|api.FStrict, "", of(api.NParams, 0, "", of(api.NDot, 0, "b", a)), s)), "(a.b) => { };")
	printed(t, of(api.NFunc, api.FDecl|api.FGen|api.FStrict, "f", of(api.NParams, 0, ""), s), "function* f() { }")
	printed(t, of(api.NProgram, 1, "", e), ";\n")
	printed(t, of(api.NSwitch, 0, "", a, of(api.NCase, 1, ""), of(api.NCase, 1, "", e)), "switch (a) { default: default: ; }")
	printed(t, of(api.NExpr, 0, "", of(api.NTemplate, 0, "", text("${"), a, text("`"))), "`\\${${a}\\``;")
	printed(t, of(api.NForIn, 0, "", of(api.NVar, 2, "", of(api.NDecl, 0, "", of(api.NArrPat, 0, "", of(api.NHole, 0, "")))), of(api.NSeq, 0, "", a, a), e), "for (const [,] in a, a) ;")
}
