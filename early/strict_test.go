package early

import (
	"pantomime/api"
	"pantomime/tree"
	"reflect"
	"slices"
	"strings"
	"testing"
)

// use is a strict directive in the form of grown.
const use = "(Expr (Text =use_strict))"

func TestStrict(t *testing.T) { // P8.1
	lists := map[string]bool{
		"":                                             false,
		use:                                            true,
		use + " (Empty)":                               true,
		"(Expr (Text =a)) (Expr (Text)) " + use:        true,
		use + " " + use:                                true,
		"(Empty) " + use:                               false,
		"(Expr (Name =a)) " + use:                      false,
		"(Expr (Text =a) (Text =b)) " + use:            false,
		"(Expr) " + use:                                false,
		"(Throw (Text =a)) " + use:                     false,
		"(Throw (Text =use_strict))":                   false,
		"(Expr (Name =use_strict))":                    false,
		"(Expr (Template (Text =use_strict)))":         false,
		"(Expr (Text =use_strict) (Num))":              false,
		"(Expr (Text =Use_strict))":                    false,
		"(Expr (Text =use_strict_))":                   false,
		"(Expr (Text =usestrict))":                     false,
		"(Block " + use + ")":                          false,
		"(Expr (Dot =a (Text =use_strict)))":           false,
		"(Expr 1 M1 =x (Text 1 M1 =use_strict (Num)))": true,
	}
	for l, want := range lists {
		for _, form := range []string{"(Program #)", "(Program 1 #)", "(Func (Params) (Block #))", "(Func 1 =f (Params (ArrPat)) (Block #))", "(Func 64 (Params) (Block #))", "(Func 2 (Num) (Block #))", "(Func 130 (Params) (Block #) (Num))"} {
			if s := strings.ReplaceAll(form, "#", l); Strict(grown(t, s)) != want {
				t.Errorf("Strict(%s) is not %v", s, want)
			}
		}
		for _, form := range []string{"(Block #)", "(Func (Block #))", "(Func (Block #) (Params))", "(Func #)", "(Func (Params) (Program #))", "(Func (Params) (Num) (Block #))", "(Program (Func (Params) (Block #)))", "(Case 1 #)", "(0 #)", "(100 #)", "(Expr (Func (Params) (Block #)))"} {
			if s := strings.ReplaceAll(form, "#", l); !(form == "(Func #)" && want) && Strict(grown(t, s)) {
				t.Errorf("Strict(%s)", s)
			}
		}
	}
	for _, s := range []string{"(Program 1)", "(Func 64 (Params) (Block))", "(Func)", "(Func (Params))", "(Program (Expr (Text)))", "(0)"} {
		if Strict(grown(t, s)) {
			t.Errorf("Strict(%s)", s)
		}
	}
	// The tree does not show how the text was written.
	for _, s := range []string{"('use strict')", "'use\\x20strict'", "'a'; (('use strict')); b", `"use strict"`} {
		if !Strict(parsed(t, s)) {
			t.Errorf("%s is not strict", s)
		}
	}
}

func TestMark(t *testing.T) { // P8.1
	for s, want := range map[string]string{
		"(Program)":                                          "(Program)",
		"(Program 1)":                                        "(Program)",
		"(Program 7 M2 =x (Empty))":                          "(Program M2 =x (Empty))",
		"(Program " + use + ")":                              "(Program 1 " + use + ")",
		"(Program 5 " + use + ")":                            "(Program 1 " + use + ")",
		"(Program (Func 65 =f (Params) (Block)))":            "(Program (Func 1 =f (Params) (Block)))",
		"(Program (Func 1 =f (Params) (Block " + use + ")))": "(Program (Func 65 =f (Params) (Block " + use + ")))",
		"(Program " + use + " (Func 1 =f (Params) (Block)))": "(Program 1 " + use + " (Func 65 =f (Params) (Block)))",
		"(Func (Params (Default (Name =a) (Func 130 (Params) (Num)))) (Block " + use + "))":                                          "(Func 64 (Params (Default (Name =a) (Func 194 (Params) (Num)))) (Block " + use + "))",
		"(Func (Params) (Block (Func 4 (Params) (Block " + use + " (Expr (Func 66 (Params) (Block))))) (Func 66 (Params) (Block))))": "(Func (Params) (Block (Func 68 (Params) (Block " + use + " (Expr (Func 66 (Params) (Block))))) (Func 2 (Params) (Block))))",
		"(Func 64 (Params) (Block (Program 1)))":               "(Func (Params) (Block (Program)))",
		"(Func (Params) (Block " + use + ") (Program) (Func))": "(Func 64 (Params) (Block " + use + ") (Program 1) (Func 64))",
		"(Func -1)": "(Func -65)",
		"(Func -65 (Params) (Block " + use + "))": "(Func -1 (Params) (Block " + use + "))",
		"(Name 64 =a)":                                "(Name 64 =a)",
		"(Block 1 " + use + " (Func))":                "(Block 1 " + use + " (Func))",
		"(0 64 M3 =s (Program 1) (Func 64) (100 64))": "(0 64 M3 =s (Program) (Func) (100 64))",
	} {
		n, marked := grown(t, s), grown(t, want)
		if got := Mark(n); !reflect.DeepEqual(got, marked) {
			t.Errorf("Mark(%s): %s, want %s", s, tree.Dump(got), want)
		}
	}
	if got := Mark(api.Node{}); !reflect.DeepEqual(got, api.Node{}) {
		t.Errorf("Mark of a node of zeros: %v", got)
	}
	n := parsed(t, "('use strict'); function f() {}")
	if n.N != 0 || Mark(n).N != 1 || Mark(n).Kids[1].N != api.FDecl|api.FStrict {
		t.Errorf("%s, marked %s", tree.Dump(n), tree.Dump(Mark(n)))
	}
}

func TestDeclares(t *testing.T) { // P8.1
	const statements = "(Var 1 (Decl (Name =a)) (Decl (ArrPat (Name =b) (Hole) (Rest (Name =c))) (Num))) (Var (Decl (Name =v))) (Func 5 =d (Params (Name =p)) (Block (Var 1 (Decl (Name =q))))) (Var 2 (Decl (ObjPat (PatProp (Text =k) (Default (Name =a) (Name =z)))) (Num))) (Func 1 =d (Params) (Block)) (Expr (Func =e (Params) (Block))) (Func =e) (Block (Var 1 (Decl (Name =e)))) (If (Num) (Func 1 =e (Params) (Block))) (Label =e (Empty)) (Name =e) (Decl (Name =e))"
	const all = "a b c d a d"
	for s, want := range map[string]string{
		"(Program " + statements + ")":                                             all,
		"(Block " + statements + ")":                                               all,
		"(Case 1 " + statements + ")":                                              all,
		"(Case (Name =x) " + statements + ")":                                      all,
		"(Case (Func 1 =x) " + statements + ")":                                    "x " + all,
		"(Func (Params (Name =x)) (Block " + statements + "))":                     all,
		"(Func 1 =f (Params) (Block " + statements + ") (Var 1 (Decl (Name =y))))": all,
		"(Switch (Num) (Case (Num) (Var 1 (Decl (Name =x)))) (Case 1 " + statements + ") (Case (Var 2 (Decl (Name =y)))))": "x " + all + " y",
		"(Switch (Func 1 =x) (Var 1 (Decl (Name =x))) (Block (Var 1 (Decl (Name =x)))))":                                   "",
		"(Switch (Case (Num) (Var 1 (Decl (Name =x)))))":                                                                   "x",
		"(Func (Block " + statements + "))":                                                                                "",
		"(Func (Params) (Program " + statements + "))":                                                                     "",
		"(Func 130 (Params) (Func 1 =x))":                                                                                  "",
		"(Func " + statements + ")":                                                                                        "",
		"(Var 1 (Decl (Name =x)))":                                                                                         "",
		"(For " + statements + ")":                                                                                         "",
		"(Catch " + statements + ")":                                                                                       "",
		"(Try " + statements + ")":                                                                                         "",
		"(0 " + statements + ")":                                                                                           "",
		"(Program)":                                                                                                        "",
		"(Program (Var 1 (Decl) (Name =x) (Decl (Name =y) (Name =z)) (ArrPat (Name =x)) (Rest (Name =x))))":       "y",
		"(Program (Var 3 (Decl (Name =x))) (Var -1 (Decl (Name =x))))":                                            "",
		"(Program (Var 1 (Decl (Num)) (Decl (Default (Name =x) (Name =y))) (Decl (Params (Name =z) (Name =z)))))": "x z z",
		"(Program (Func 3 =x) (Func -1 =y) (Func 2 =z))":                                                          "x y",
	} {
		if got := strings.Join(Declares(grown(t, s)), " "); got != want {
			t.Errorf("Declares(%s): %q, want %q", s, got, want)
		}
	}
	if l := Declares(api.Node{Op: api.NProgram, Kids: []api.Node{{Op: api.NFunc, N: api.FDecl}}}); !slices.Equal(l, []string{""}) {
		t.Errorf("a function without a name: %q", l)
	}
}

func TestAnyNode(t *testing.T) { // P8.1 to P8.3, by the rules R1 and R5
	c := chance(9)
	for range 30000 {
		n := c.anyNode(5)
		before := tree.Copy(n)
		Strict(n)
		Declares(n)
		marked := Mark(n)
		if again := Mark(marked); !reflect.DeepEqual(again, marked) {
			t.Errorf("%s: marked %s, then %s", tree.Dump(n), tree.Dump(marked), tree.Dump(again))
		}
		if Strict(n) != Strict(marked) || !slices.Equal(Declares(n), Declares(marked)) {
			t.Errorf("%s: other answers when it is marked", tree.Dump(n))
		}
		at, e := Check(n)
		bt, f := Check(marked)
		if tree.Right(n) && (at != bt || e != f) || e == api.OK && at != 0 {
			t.Errorf("%s: %d at %d, marked %d at %d", tree.Dump(n), e, at, f, bt)
		}
		if (e == api.ErrArg) != !(n.Op == api.NProgram && tree.Right(n)) {
			t.Errorf("%s: %d", tree.Dump(n), e)
		}
		spoil(&marked)
		if !reflect.DeepEqual(n, before) {
			t.Fatalf("%s: the argument changed", tree.Dump(before))
		}
	}
}

func TestDeepNodes(t *testing.T) { // P8.1, by the rule R1
	n := grown(t, "(Func (Params) (Block "+use+"))")
	for range 1 << 16 {
		n = api.Node{Op: api.NBlock, Kids: []api.Node{n}}
	}
	marked := Mark(n)
	if tree.Same(n, marked) || Strict(n) || Declares(n) != nil {
		t.Error("a deep tree")
	}
}
