package labels

import (
	"pantomime/api"
	"pantomime/tree"
	"reflect"
	"strings"
	"testing"
)

func wantOf(t *testing.T, s, want string) {
	t.Helper()
	if got := answer(parsed(t, s)); got != want {
		t.Errorf("%s: %s, want %s", s, got, want)
	}
}

func TestExample(t *testing.T) { // P13.1
	s := "a: for (;;) { switch (x) { case 1: continue a; default: break a } }"
	wantOf(t, s, "0/-1@0 1/2@3 3/-1@14 35>2 56>0 ")
	marks, jumps, at, e := Of(parsed(t, s))
	if !reflect.DeepEqual(marks, []Mark{{0, 0, -1}, {3, 1, 2}, {14, 3, -1}}) || !reflect.DeepEqual(jumps, []Jump{{35, 2}, {56, 0}}) || at != 0 || e != api.OK {
		t.Errorf("%v %v %d %d", marks, jumps, at, e)
	}
}

func TestMarks(t *testing.T) { // P13.1
	for _, x := range [][2]string{
		{"", ""}, {"x;", ""}, {"{ if (x) y; else { try { z } finally {} } }", ""},
		{"for (;;) ;", "0/1@0 "}, {"for (x in y) ;", "0/1@0 "}, {"for (x of y) ;", "0/1@0 "}, {"while (x) ;", "0/1@0 "}, {"do ; while (x)", "0/1@0 "},
		{"switch (x) {}", "0/-1@0 "}, {"a: ;", "0/-1@0 "}, {"a: { b: ; a1: ; }", "0/-1@0 1/-1@5 2/-1@10 "},
		{"for (;;) for (;;) ; while (x) ;", "0/1@0 2/3@9 4/5@20 "},
		{"a: b: do ; while (x); c: switch (x) { default: while (x) ; }", "0/-1@0 1/-1@3 2/3@6 4/-1@22 5/-1@25 6/7@47 "},
		{"if (x) while (y) ; else a: ;", "0/1@7 2/-1@24 "},
		{"try { while (x) ; } catch (e) { a: ; } finally { switch (x) {} }", "0/1@6 2/-1@32 3/-1@49 "},
		{"a: ; a: ; a: ;", "0/-1@0 1/-1@5 2/-1@10 "},
	} {
		wantOf(t, x[0], x[1])
	}
	labelled := parsed(t, "a: b: ; function f() { while (x) break }")
	labelled.Kids[0].Kids[0].Kids[0] = labelled.Kids[1]
	if got := answer(labelled); got != "0/-1@0 1/-1@3 " {
		t.Errorf("a function with labels: %s", got)
	}
}

func TestJumps(t *testing.T) { // P13.1
	for _, x := range [][2]string{
		{"for (;;) break", "0/1@0 9>0 "}, {"for (;;) continue", "0/1@0 9>1 "},
		{"for (x in y) { break; continue }", "0/1@0 15>0 22>1 "}, {"for (x of y) { break; continue }", "0/1@0 15>0 22>1 "}, {"while (x) { break; continue }", "0/1@0 12>0 19>1 "}, {"do { break; continue } while (x)", "0/1@0 5>0 12>1 "},
		{"switch (x) { case 1: break; default: break }", "0/-1@0 21>0 37>0 "},
		{"while (x) switch (y) { case 1: break; case 2: continue }", "0/1@0 2/-1@10 31>2 46>1 "},
		{"switch (x) { default: while (y) { break; continue } break }", "0/-1@0 1/2@22 34>1 41>2 52>0 "},
		{"while (x) { while (y) break; continue; break }", "0/1@0 2/3@12 22>2 29>1 39>0 "},
		{"a: break a", "0/-1@0 3>0 "}, {"a: { break a; }", "0/-1@0 5>0 "}, {"a: { while (x) { break a; break } }", "0/-1@0 1/2@5 17>0 26>1 "},
		{"a: if (x) break a; else { try { break a } catch (e) { break a } finally { break a } }", "0/-1@0 10>0 32>0 54>0 74>0 "},
		{"a: while (x) { break a; continue a }", "0/-1@0 1/2@3 15>0 24>2 "},
		{"a: b: c: while (x) { continue a; continue b; continue c; continue; break a; break b; break c; break }", "0/-1@0 1/-1@3 2/-1@6 3/4@9 21>4 33>4 45>4 57>4 67>0 76>1 85>2 94>3 "},
		{"a: while (x) b: while (y) { continue a; continue b; continue; break a; break b; break }", "0/-1@0 1/2@3 3/-1@13 4/5@16 28>2 40>5 52>5 62>0 71>3 80>4 "},
		{"a: switch (x) { case 1: break a; case 2: break }", "0/-1@0 1/-1@3 24>0 41>1 "},
		{"while (x) a: { break; continue; break a }", "0/1@0 2/-1@10 15>0 22>1 32>2 "},
		{"a: { break a } a: while (x) continue a", "0/-1@0 1/-1@15 2/3@18 5>0 28>3 "},
		{"while (x) { b: ; } while (x) { b: break }", "0/1@0 2/-1@12 3/4@19 5/-1@31 34>3 "},
		{"switch (x) { case 1: switch (y) { default: break } break }", "0/-1@0 1/-1@21 43>1 51>0 "},
		{"for (var f = function () {}; ; ) break", "0/1@0 33>0 "},
	} {
		wantOf(t, x[0], x[1])
	}
}

func TestInvalid(t *testing.T) { // P13.1
	for _, x := range [][2]string{
		{"break", "error 32@0"}, {"continue", "error 32@0"}, {"x; { break }", "error 32@5"}, {"a: break", "error 32@3"}, {"a: { continue }", "error 32@5"}, {"if (x) continue", "error 32@7"},
		{"switch (x) { case 1: continue }", "error 32@21"}, {"a: switch (x) { default: continue }", "error 32@25"}, {"while (x) ; break", "error 32@12"}, {"while (x) ; continue", "error 32@12"}, {"switch (x) {} break", "error 32@14"},
		{"break a", "error 31@0"}, {"continue a", "error 31@0"}, {"while (x) break a", "error 31@10"}, {"while (x) continue a", "error 31@10"}, {"a: ; break a", "error 31@5"}, {"a: while (x) ; while (x) continue a", "error 31@25"}, {"a: while (x) break b", "error 31@13"}, {"a: break A", "error 31@3"},
		{"a: continue a", "error 32@3"}, {"a: { continue a }", "error 32@5"}, {"a: { while (x) continue a }", "error 32@15"}, {"a: switch (x) { case 1: continue a }", "error 32@24"}, {"while (x) a: { continue a }", "error 32@15"}, {"a: b: { while (x) continue a }", "error 32@18"}, {"a: if (x) while (y) continue a", "error 32@20"}, {"while (x) a: switch (y) { case 1: continue a }", "error 32@34"},
		{"a: a: ;", "error 31@3"}, {"a: { x; { a: ; } }", "error 31@10"}, {"a: while (x) a: while (y) ;", "error 31@13"}, {"a: b: a: ;", "error 31@6"}, {"a: switch (x) { case 1: if (y) a: ; }", "error 31@31"}, {"a: b: while (x) b: continue a", "error 31@16"},
		{"x; break; break a; a: a: ;", "error 32@3"}, {"x; break a; break; a: a: ;", "error 31@3"}, {"a: a: break b", "error 31@3"}, {"while (x) { break; continue b; break c } break", "error 31@19"}, {"a: { continue a; a: ; }", "error 32@5"},
		{"try { break } finally { break a }", "error 32@6"},
	} {
		wantOf(t, x[0], x[1])
	}
}

func TestFunctions(t *testing.T) { // P13.1
	// What stands in functions inside is no part of the body, neither marks nor jumps nor errors, and nothing there sees what is around the function.
	wantOf(t, "while (x) { function f() { while (y) { break; a: ; } } break }", "0/1@0 55>0 ")
	wantOf(t, "a: { (function () { break; continue q; a: a: ; }); (() => { break a }); ({m() { continue }, get g() { break }}); break a }", "0/-1@0 113>0 ")
	wantOf(t, "function f(p = () => { break }) { continue a }", "")
	for _, x := range [][2]string{
		{"while (x) { a: (function () { while (y) { break; continue } }) }", "0/1@30 42>0 49>1 "},
		{"while (x) { (function () { break }) }", "error 32@27"},
		{"a: { (function () { break a }) }", "error 31@20"},
		{"a: while (x) (() => { a: while (y) continue a })", "0/-1@22 1/2@25 35>2 "},
		{"x = {m() { a: break a; (() => { break a }) }}", "0/-1@11 14>0 "},
		{"function f(p = () => { break }) { while (x) break }", "0/1@34 44>0 "},
		{"function f({a, b: [c] = function () { break }}, ...r) { switch (x) { default: break } }", "0/-1@56 78>0 "},
		{"x => x", ""}, {"x => () => { break }", ""}, {"function f() {}", ""},
	} {
		if got := answer(function(t, x[0])); got != x[1] {
			t.Errorf("%s: %s, want %s", x[0], got, x[1])
		}
	}
	getter := function(t, "({get g() { break }})")
	if got := answer(getter); getter.N&api.FGet == 0 || got != "error 32@12" {
		t.Errorf("a getter: %s", got)
	}
}

func TestWrongArguments(t *testing.T) { // P13.1
	loop := parsed(t, "a: while (x) { break a }")
	for name, n := range map[string]api.Node{
		"nothing": {}, "a block": {Op: api.NBlock}, "a statement": loop.Kids[0], "a loop": loop.Kids[0].Kids[0], "an expression": {Op: api.NNull}, "an unknown kind": {Op: 99}, "a kind of the core IR": {Op: api.PBreak},
		"parameters":                           {Op: api.NParams},
		"a program that isn't well-formed":     {Op: api.NProgram, N: 2},
		"a place below 0":                      {Op: api.NProgram, At: -1},
		"a program of an expression":           {Op: api.NProgram, Kids: []api.Node{{Op: api.NNull}}},
		"a function without children":          {Op: api.NFunc},
		"a break with a wrong label":           {Op: api.NProgram, Kids: []api.Node{{Op: api.NBreak}, {Op: api.NBreak, S: "1"}}},
		"a label without a name":               {Op: api.NProgram, Kids: []api.Node{{Op: api.NLabel, Kids: []api.Node{{Op: api.NEmpty}}}}},
		"a label without a child":              {Op: api.NProgram, Kids: []api.Node{{Op: api.NLabel, S: "a"}}},
		"a wrong function behind a break":      {Op: api.NProgram, Kids: []api.Node{{Op: api.NBreak}, {Op: api.NFunc, N: api.FDecl}}},
		"a continue in a program too deep":     deep(200, api.NContinue),
		"a program that is one level too deep": deep(200, api.NEmpty),
	} {
		if got := answer(n); got != "error 1@0" {
			t.Errorf("%s: %s", name, got)
		}
	}
	if got := answer(deep(199, api.NContinue)); got != "error 32@7" {
		t.Errorf("as deep as allowed: %s", got)
	}
	if got := answer(deep(199, api.NEmpty)); got != "" {
		t.Errorf("as deep as allowed: %s", got)
	}
}

// deep is a program of blocks that are nested count nodes deep below it, the innermost statement of which is at place 7.
func deep(count, inner int) api.Node {
	n := api.Node{Op: inner, At: 7}
	for range count - 1 {
		n = api.Node{Op: api.NBlock, Kids: []api.Node{n}}
	}
	return api.Node{Op: api.NProgram, Kids: []api.Node{n}}
}

func TestDeepLabels(t *testing.T) { // P13.1
	var s strings.Builder
	for i := range 190 {
		s.WriteString("l" + strings.Repeat("x", i) + ": ")
	}
	n := parsed(t, s.String()+"while (x) { continue l; break lxx }")
	marks, jumps, _, e := Of(n)
	if e != api.OK || len(marks) != 191 || marks[190] != (Mark{At: s.Len(), Break: 190, Again: 191}) || len(jumps) != 2 || jumps[0].To != 191 || jumps[1].To != 2 {
		t.Errorf("%d %v %v", e, marks, jumps)
	}
}

func TestArgumentIsKept(t *testing.T) { // P13.1
	n := parsed(t, "a: while (x) { switch (y) { default: break a } continue }")
	before := tree.Copy(n)
	first := answer(n)
	marks, jumps, _, _ := Of(n)
	marks[0], jumps[0] = Mark{}, Jump{}
	if !reflect.DeepEqual(n, before) || answer(n) != first {
		t.Error("the argument was changed, or answers share memory")
	}
}
