package ir

import (
	"math"
	"pantomime/api"
	"reflect"
	"regexp"
	"strings"
	"testing"
)

func TestNameAndIsExpr(t *testing.T) { // P11.1
	named := map[int]string{}
	for name, op := range kinds() {
		named[op] = name
	}
	if len(named) != 61 {
		t.Fatalf("%d kinds", len(named))
	}
	count := 0
	for op := -300; op < 400; op++ {
		if got := Name(op); got != named[op] {
			t.Errorf("%d: %q, want %q", op, got, named[op])
		}
		if got := IsExpr(op); got != (code(op) == "e") {
			t.Errorf("%d: %v", op, got)
		} else if got {
			count++
		}
	}
	if count != 45 || IsExpr(api.PPut) || IsExpr(api.PCopy) || IsExpr(api.PSpread) || IsExpr(api.PDo) || IsExpr(api.NNum) || !IsExpr(api.PClose) {
		t.Errorf("%d expressions", count)
	}
	for _, op := range []int{math.MinInt, math.MaxInt, math.MinInt32, math.MaxInt32} {
		if Name(op) != "" || IsExpr(op) {
			t.Errorf("%d: %q", op, Name(op))
		}
	}
}

// placed is a unit in which a node stands inside two contexts of 2 and, inside that, 3 slots, in label 5 and in a loop of labels 6 and 7, in a generator with 3 locals.
func placed(n api.Node) api.Unit {
	body := api.Node{Op: api.PDo, Kids: []api.Node{n}}
	switch code(n.Op) {
	case "p", "c":
		body.Kids = []api.Node{{Op: api.PObject, Kids: body.Kids}}
	case "w":
		body.Kids = []api.Node{{Op: api.PArray, Kids: body.Kids}}
	case "s", "?":
		body = n
	}
	none := api.Node{Op: api.PNone}
	body = api.Node{Op: api.PLoop, N: 6, M: 7, Kids: []api.Node{{Op: api.PNull}, body, none}}
	body = api.Node{Op: api.PLabel, N: 5, Kids: []api.Node{body}}
	body = api.Node{Op: api.PScope, N: 2, Kids: []api.Node{{Op: api.PScope, N: 3, Kids: []api.Node{body}}}}
	first := api.Node{Op: api.PDo, Kids: []api.Node{{Op: api.PFunc, N: 1}}}
	return api.Unit{Funcs: []api.Func{{Body: first}, {Kind: api.FGen, Locals: 3, Body: body}, {Body: none}}}
}

// kidsOf are the nodes that letters stand for.
func kidsOf(t *testing.T, letters string) []api.Node {
	t.Helper()
	var l []api.Node
	for _, letter := range letters {
		l = append(l, made(t, short(string(letter))))
	}
	return l
}

// sample returns a node of a kind with fields and children such that it is right where placed puts it.
func sample(t *testing.T, name string) (row, api.Node) {
	t.Helper()
	for _, r := range rows() {
		for _, known := range strings.Fields(r.names) {
			if known != name {
				continue
			}
			n := api.Node{Op: kinds()[name], N: r.n[0]}
			switch name {
			case "Func":
				n.N = 2
			case "Break":
				n.N = 6
			case "Again":
				n.N = 7
			}
			n.S = map[string]string{"Check": "a", "Const": "a", "Global": "a", "SetGlobal": "a", "Unary": "!", "Binary": "+", "Logic": "&&"}[name]
			pattern := regexp.MustCompile("^(?:" + r.kids + ")$")
			for _, kids := range []string{"", "e", "s", "ee", "eee", "ess", "sss"} {
				if pattern.MatchString(kids) {
					n.Kids = kidsOf(t, kids)
					break
				}
			}
			return r, n
		}
	}
	t.Fatalf("no row: %s", name)
	return row{}, api.Node{}
}

func TestChildren(t *testing.T) { // P11.1: every sequence of up to four children, for each kind
	var sequences []string
	for last := []string{""}; len(last[0]) < 5; {
		sequences = append(sequences, last...)
		var next []string
		for _, s := range last {
			for _, letter := range "espcw" {
				next = append(next, s+string(letter))
			}
		}
		last = next
	}
	parts := map[rune]api.Node{}
	for _, letter := range "espcw" {
		parts[letter] = made(t, short(string(letter)))
	}
	for name := range kinds() {
		r, n := sample(t, name)
		if !Right(placed(n)) {
			t.Errorf("%s is not right: %v", name, n)
		}
		pattern := regexp.MustCompile("^(?:" + r.kids + ")$")
		for _, s := range sequences {
			n.Kids = nil
			for _, letter := range s {
				n.Kids = append(n.Kids, parts[letter])
			}
			for n.M = 0; n.M <= r.m[1] && n.M < 2; n.M++ {
				want := pattern.MatchString(s)
				if name == "Call" && n.M == 1 {
					want = regexp.MustCompile("^ee[ew]*$").MatchString(s)
				}
				if Right(placed(n)) != want {
					t.Errorf("%s %d with %q: %v", name, n.M, s, !want)
				}
			}
		}
	}
}

func TestNumbers(t *testing.T) { // P11.1: N and M of each kind
	values := []int{math.MinInt, -1<<53 - 1, -1 << 53, -2, -1, 0, 1, 2, 3, 4, 5, 6, 7, 8, 1023, 1024, 1025, 4095, 4096, 4097, 1 << 53, 1<<53 + 1, math.MaxInt}
	for name := range kinds() {
		r, good := sample(t, name)
		for _, n := range values {
			for _, m := range values {
				x := good
				x.N, x.M = n, m
				want := r.n[0] <= n && n <= r.n[1] && r.m[0] <= m && m <= r.m[1]
				switch {
				case r.locals:
					want = 0 <= n && n <= 2 && m == 0
				case r.held:
					want = n == 0 && 0 <= m && m <= 2 || n == 1 && 0 <= m && m <= 1
				case name == "Func":
					want = n == 2 && m == 0 // function 1 is created elsewhere without contexts
				case name == "Break":
					want = (n == 5 || n == 6) && m == 0
				case name == "Again":
					want = n == 7 && m == 0
				case name == "Call" && m == 1:
					x.Kids = append([]api.Node{{Op: api.PThis}}, x.Kids...)
				}
				if Right(placed(x)) != want {
					t.Errorf("%s %d %d: %v", name, n, m, !want)
				}
			}
		}
	}
}

func TestStrings(t *testing.T) { // P11.1: S of each kind
	long := strings.Repeat("a", api.MaxText)
	values := strings.Fields("| ^ & == != === !== < > <= >= instanceof in << >> + - * / % && || ?? ! ~ void typeof delete = += ++ -- >>> ** a Z _ $ a1 $_9 if let true 1 1a a-b é . a.b \" =")
	values = append(values, "", " ", "a ", " a", "a\x00", "\xff", "a\n", long, long+"a", long[1:]+"-", strings.Repeat(" ", api.MaxText), strings.Repeat(" ", api.MaxText+1))
	for name := range kinds() {
		r, n := sample(t, name)
		pattern := regexp.MustCompile("^(?:" + r.s + ")$")
		for _, s := range values {
			n.S = s
			want := (r.s == "text" || pattern.MatchString(s)) && len(s) <= api.MaxText
			if Right(placed(n)) != want {
				t.Errorf("%s with %.20q of %d bytes: %v", name, s, len(s), !want)
			}
		}
	}
}

func TestManyArguments(t *testing.T) { // P11.1
	list := func(first, count, op int) []api.Node {
		l := make([]api.Node, first+count)
		for i := range l {
			l[i].Op = api.PUndef
			if i >= first && i%2 == 0 && op == api.PSpread {
				l[i] = api.Node{Op: op, Kids: []api.Node{{Op: api.PUndef}}}
			}
		}
		return l
	}
	for _, op := range []int{api.PUndef, api.PSpread} {
		for _, x := range []struct{ op, m, first int }{{api.PCall, 0, 1}, {api.PCall, 1, 2}, {api.PNew, 0, 1}, {api.PCallOn, 0, 2}} {
			for count, want := range map[int]bool{0: true, 1: true, 1023: true, 1024: true, 1025: false, 3000: false} {
				if Right(placed(api.Node{Op: x.op, M: x.m, Kids: list(x.first, count, op)})) != want {
					t.Errorf("%s %d of %d arguments: %v", Name(x.op), x.m, count, !want)
				}
			}
		}
		if !Right(placed(api.Node{Op: api.PArray, Kids: list(0, 5000, op)})) {
			t.Error("a long array")
		}
	}
	if !Right(placed(api.Node{Op: api.POthers, Kids: list(5000, 0, 0)})) || !Right(placed(api.Node{Op: api.PSeq, Kids: list(5000, 0, 0)})) {
		t.Error("long lists")
	}
}

// right and wrong take units, each function a text of its own, that are well-formed or not.
func right(t *testing.T, bodies ...string) { t.Helper(); judge(t, true, bodies) }
func wrong(t *testing.T, bodies ...string) { t.Helper(); judge(t, false, bodies) }

func judge(t *testing.T, want bool, bodies []string) {
	t.Helper()
	u := unitOf(t, bodies...)
	before := copiedUnit(u)
	if Right(u) != want {
		t.Errorf("%q: %v", bodies, !want)
	}
	if !reflect.DeepEqual(u, before) {
		t.Errorf("%q: the argument changed", bodies)
	}
	for _, f := range u.Funcs {
		for i, n := range places(&f.Body) {
			n.At = i - 3
		}
	}
	if Right(u) != want {
		t.Errorf("%q with At: %v", bodies, !want)
	}
}

func TestBodies(t *testing.T) { // P11.1
	right(t, "(None)")
	right(t, "(Block (Do (SetLocal 2 e)) (Return (Local)))")
	for _, s := range []string{"(Undef)", "(Put (Undef) (Undef))", "(Copy e)", "(Spread e)", "(Seq s e)", "(Block e)", "(Do s)", "(Block (Do e) (Do (Do e)))", "(Do (Seq e s))", "(Do (Seq))"} {
		wrong(t, s)
	}
	wrong(t, "(None)", "(Undef)")
	wrong(t, "(None)", "(None)", "(Do s)")
	// A node of the AST, or of no kind at all
	for _, op := range []int{0, -1, api.NBlock, api.NEmpty, api.NNum, 99, 148, 159, 173, 1000, math.MinInt, math.MaxInt} {
		n := api.Node{Op: op}
		if Right(placed(n)) || Right(api.Unit{Funcs: []api.Func{{Body: n}}}) || Right(placed(api.Node{Op: api.PReturn, Kids: []api.Node{n}})) {
			t.Errorf("kind %d", op)
		}
	}
}

func TestYield(t *testing.T) { // P11.1: only in generators
	for _, s := range []string{"(Do (Yield e))", "(Do (Delegate e))", "(Return (Binary =+ e (Yield (Undef))))"} {
		right(t, "(None)", s)
		wrong(t, s, "(None)")
		u := unitOf(t, "(None)", s)
		for kind := range 256 {
			u.Funcs[1].Kind = kind
			if Right(u) != (kind&api.FGen != 0) {
				t.Errorf("%s in a function of kind %d", s, kind)
			}
		}
	}
}

func TestLabels(t *testing.T) { // P11.1: targets of Break and Again
	for _, s := range []string{
		"(Label 3 (Break 3))", "(Label (Break))", "(Label 4096 (Block s (If e s (Break 4096))))", "(Label 3 (Label 4 (Break 3)))", "(Label 3 (Label 3 (Break 3)))", "(Label 3 (Label 4 (Block (Break 4) (Break 3))))",
		"(Loop 1 2 e (Break 1) s)", "(Loop 1 2 e (Again 2) s)", "(Loop 1 1 e (Block (Break 1) (Again 1)) s)", "(Loop e (Block (Break) (Again)) s)", "(Loop 1 2 e (Loop 3 4 e (Block (Break 1) (Again 2) (Break 3) (Again 4)) s) s)",
		"(Label 5 (Loop 1 2 (Seq (Break 5) e) s (Break 5)))", "(Loop 5 6 e (Loop 1 2 (Seq (Break 5) (Again 6) e) s (Block (Break 5) (Again 6))) s)", "(Loop 1 2 e (Do (Array (Seq (Break 1) e) (Spread (Seq (Again 2) e)))) s)",
		"(Label 3 (Try (Break 3) (Break 3) (Break 3)))", "(Label 3 (Scope 1 (Break 3)))", "(Label 3 (Return (Cond (Seq (Break 3) e) e e)))", "(Loop 1 2 e (Label 1 (Break 1)) s)", "(Loop 1 2 e (Label 2 (Block (Break 2) (Again 2))) s)",
	} {
		right(t, s)
		right(t, "(None)", "(Block "+s+")")
	}
	for _, s := range []string{
		"(Break)", "(Again)", "(Block (Label 3 s) (Break 3))", "(Label 3 (Break 4))", "(Label 3 (Again 3))", "(Loop 1 2 e (Break 2) s)", "(Loop 1 2 e (Again 1) s)", "(Loop 1 2 e s (Break 1))", "(Loop 1 2 e s (Again 2))", "(Loop 1 2 (Seq (Break 1) e) s s)", "(Loop 1 2 (Seq (Again 2) e) s s)",
		"(Block (Loop 1 2 e s s) (Break 1))", "(Block (Break 1) (Label 1 s))", "(Block (Loop 1 2 e s s) (Again 2))", "(Label 1 (Loop 3 4 e s (Again 4)))",
	} {
		wrong(t, s)
		wrong(t, "(None)", "(Block "+s+")")
	}
	// A function doesn't enclose what stands in another one.
	wrong(t, "(Label 3 (Do (Func 1)))", "(Break 3)")
	wrong(t, "(Loop 1 2 e (Do (Func 1)) s)", "(Break 1)")
	wrong(t, "(Loop 1 2 e (Do (Func 1)) s)", "(Again 2)")
	right(t, "(Loop 1 2 e (Do (Func 1)) s)", "(Label 1 (Break 1))")
}

func TestFresh(t *testing.T) { // P11.1: only inside a context of the same function
	right(t, "(Scope (Fresh))")
	right(t, "(Scope 3 (Loop e s (Fresh)))")
	right(t, "(Scope 3 (Scope 1 (Do (Seq (Fresh) e))))")
	wrong(t, "(Fresh)")
	wrong(t, "(Block (Scope s) (Fresh))")
	wrong(t, "(Scope 3 (Do (Func 1)))", "(Fresh)")
	right(t, "(Scope 3 (Do (Func 1)))", "(Scope (Fresh))")
	right(t, "(Do (Func 1))", "(Scope (Fresh))")
}

func TestContexts(t *testing.T) { // P11.1: contexts and slots of Held and SetHeld
	right(t, "(Scope 1 (Do (Held 0 0)))")
	wrong(t, "(Scope 0 (Do (Held 0 0)))")
	wrong(t, "(Do (Held 0 0))")
	wrong(t, "(Block (Scope 1 s) (Do (Held 0 0)))")
	right(t, "(Scope 2 (Scope 3 (Scope 0 (Block (Do (SetHeld 1 2 (Held 2 1))) (Do (Held 2 0))))))")
	wrong(t, "(Scope 2 (Scope 3 (Scope 0 (Do (Held 2 2)))))")
	wrong(t, "(Scope 2 (Scope 3 (Scope 0 (Do (Held 3 0)))))")
	wrong(t, "(Scope 2 (Scope 3 (Scope 0 (Do (SetHeld 0 0 e)))))")
	// Of the functions around it too
	right(t, "(Scope 2 (Do (Func 1)))", "(Do (Held 0 1))")
	wrong(t, "(Scope 2 (Do (Func 1)))", "(Do (Held 0 2))")
	wrong(t, "(Scope 2 (Do (Func 1)))", "(Do (Held 1 0))")
	right(t, "(Scope 2 (Do (Func 1)))", "(Scope 1 (Block (Do (Held 1 1)) (Do (Held 0 0))))")
	right(t, "(Scope 2 (Block (Do (Func 1)) (Scope 5 s)))", "(Scope 1 (Do (Func 2)))", "(Scope 3 (Do (SetHeld 2 1 (SetHeld 1 0 (Held 0 2)))))")
	wrong(t, "(Scope 2 (Do (Func 1)))", "(Scope 1 (Do (Func 2)))", "(Scope 3 (Do (Held 3 0)))")
	wrong(t, "(Scope 2 (Do (Func 1)))", "(Block (Scope 1 s) (Do (Func 2)))", "(Scope 3 (Do (Held 2 0)))")
	right(t, "(Scope 2 (Do (Func 2)))", "(Do (Held 1 1))", "(Scope 1 (Do (Func 1)))")
	// Every Func of a function has the same contexts.
	right(t, "(Block (Do (Func 1)) (Do (Func 1)))", "(None)")
	right(t, "(Block (Scope 2 (Do (Func 1))) (Scope 2 (Do (Func 1))))", "(Do (Held 0 1))")
	wrong(t, "(Block (Scope 2 (Do (Func 1))) (Scope 3 (Do (Func 1))))", "(None)")
	wrong(t, "(Block (Scope 2 (Do (Func 1))) (Do (Func 1)))", "(None)")
	wrong(t, "(Block (Do (Func 1)) (Scope 0 (Do (Func 1))))", "(None)")
	wrong(t, "(Block (Scope 1 (Scope 2 (Do (Func 1)))) (Scope 2 (Scope 1 (Do (Func 1)))))", "(None)")
	wrong(t, "(Block (Scope 1 (Scope 2 (Do (Func 1)))) (Scope 2 (Do (Func 1))))", "(None)")
	right(t, "(Block (Scope 1 (Scope 2 (Do (Func 1)))) (Scope 1 (Do (Func 2))))", "(Do (Held 1 0))", "(Scope 2 (Do (Func 1)))")
	wrong(t, "(Block (Scope 1 (Scope 2 (Do (Func 1)))) (Scope 1 (Do (Func 2))))", "(Do (Held 1 0))", "(Scope 1 (Do (Func 1)))")
	right(t, "(Do (Func 1))", "(Do (Func 1))")
	wrong(t, "(Do (Func 1))", "(Scope 1 (Do (Func 1)))")
	right(t, "(Scope 1 (Do (Func 1)))", "(Do (Func 2))", "(Do (Func 1))")
	wrong(t, "(Scope 1 (Do (Func 1)))", "(Do (Func 2))", "(Scope (Do (Func 1)))")
	// What isn't reached has no contexts around it, the lowest number first.
	right(t, "(None)", "(Scope 1 (Do (Held 0 0)))")
	wrong(t, "(None)", "(Do (Held 0 0))")
	right(t, "(None)", "(Scope 1 (Do (Func 2)))", "(Do (Held 0 0))")
	wrong(t, "(None)", "(Do (Held 0 0))", "(Scope 1 (Do (Func 1)))")
	wrong(t, "(None)", "(None)", "(Scope 1 (Do (Func 1)))")
	right(t, "(None)", "(None)", "(Block (Do (Func 1)) (Scope 1 s))")
	right(t, "(None)", "(Do (Func 3))", "(Scope 1 (Do (Held 0 0)))", "(Do (Func 1))")
	wrong(t, "(None)", "(Scope 1 (Do (Func 3)))", "(None)", "(Do (Func 1))")
	right(t, "(Scope 1 (Do (Func 3)))", "(None)", "(Do (Held 1 0))", "(Scope 2 (Do (Func 2)))")
	wrong(t, "(Scope 1 (Do (Func 3)))", "(Scope 1 (Do (Func 2)))", "(Do (Held 1 0))", "(Scope 2 (Do (Func 2)))")
	wrong(t, "(None)", "(Do (Func 1))", "(Scope 1 (Do (Func 1)))")
	// The functions are numbered from 0; the first can't be created.
	wrong(t, "(Do (Func 0))", "(None)")
	wrong(t, "(Do (Func 1))")
	wrong(t, "(Do (Func 2))", "(None)")
	right(t, "(Do (Func 2))", "(None)", "(None)")
}

func TestHeads(t *testing.T) { // P11.1
	none := api.Node{Op: api.PNone}
	for _, x := range []struct {
		f    api.Func
		want bool
	}{
		{api.Func{}, true}, {api.Func{Name: strings.Repeat("\xff", api.MaxText)}, true}, {api.Func{Name: strings.Repeat("a", api.MaxText+1)}, false},
		{api.Func{Kind: 255}, true}, {api.Func{Kind: 256}, false}, {api.Func{Kind: -1}, false}, {api.Func{Kind: math.MinInt}, false}, {api.Func{Kind: math.MaxInt}, false},
		{api.Func{Length: 1024}, true}, {api.Func{Length: 1025}, false}, {api.Func{Length: -1}, false}, {api.Func{Length: math.MaxInt}, false},
		{api.Func{Locals: 4096}, true}, {api.Func{Locals: 4097}, false}, {api.Func{Locals: -1}, false}, {api.Func{Locals: math.MinInt}, false},
	} {
		f := x.f
		f.Body = none
		if Right(api.Unit{Funcs: []api.Func{{Body: none}, f}}) != x.want {
			t.Errorf("%.20q %d %d %d: %v", f.Name, f.Kind, f.Length, f.Locals, !x.want)
		}
		f.Kind &^= api.FGen
		if got := Right(api.Unit{Funcs: []api.Func{f}}); got != x.want && f.Kind&^api.FGen == x.f.Kind {
			t.Errorf("%.20q %d %d %d as the first: %v", f.Name, f.Kind, f.Length, f.Locals, got)
		}
	}
	for kind := range 256 {
		if Right(api.Unit{Funcs: []api.Func{{Kind: kind, Body: none}}}) != (kind&api.FGen == 0) {
			t.Errorf("kind %d", kind)
		}
	}
	many := make([]api.Func, api.MaxNames+1)
	for i := range many {
		many[i].Body = none
	}
	if Right(api.Unit{}) || Right(api.Unit{Funcs: []api.Func{}}) || Right(api.Unit{Funcs: []api.Func{{}}}) || !Right(api.Unit{Funcs: many[:api.MaxNames]}) || Right(api.Unit{Funcs: many}) {
		t.Error("the number of functions")
	}
	// The locals of one function are none of another.
	u := unitOf(t, "(Do (Local 2))", "(Do (Local 3))")
	if Right(u) {
		t.Error("a local too many")
	}
	u.Funcs[1].Locals, u.Funcs[0].Locals = 4, 2
	if Right(u) {
		t.Error("a local too many in the program")
	}
	u.Funcs[0].Locals = 3
	if !Right(u) {
		t.Error("locals")
	}
	u = unitOf(t, "(Try s s s)")
	u.Funcs[0].Locals = 0
	if Right(u) {
		t.Error("a Try without a local")
	}
}

func TestLevels(t *testing.T) { // P11.1
	leaf := api.Node{Op: api.PNone}
	for levels, want := range map[int]bool{1: true, 2047: true, 2048: true, 2049: false, 1 << 16: false} {
		u := api.Unit{Funcs: []api.Func{{Body: nested(api.PBlock, levels, leaf)}}}
		if Right(u) != want {
			t.Errorf("%d levels of blocks: %v", levels, !want)
		}
		u.Funcs = append([]api.Func{{Body: leaf}}, u.Funcs...)
		if Right(u) != want {
			t.Errorf("%d levels of blocks in another function: %v", levels, !want)
		}
		n := api.Node{Op: api.PDo, Kids: []api.Node{nested(api.PNeed, levels, api.Node{Op: api.PNull})}}
		if Right(api.Unit{Funcs: []api.Func{{Body: n}}}) != (levels < api.MaxNames/2) {
			t.Errorf("%d levels of expressions", levels)
		}
	}
	// Contexts at as many levels, and those of functions in functions
	var l []api.Func
	for i := range 20 {
		inner := api.Node{Op: api.PDo, Kids: []api.Node{{Op: api.PFunc, N: i + 1}}}
		if i == 19 {
			inner.Kids[0] = api.Node{Op: api.PHeld, N: 20*2046 - 1}
		}
		body := nested(api.PScope, 2047, inner)
		for _, n := range places(&body)[:2046] {
			n.N = 1
		}
		l = append(l, api.Func{Body: body})
	}
	if !Right(api.Unit{Funcs: l}) {
		t.Error("many contexts")
	}
	last := places(&l[19].Body)
	last[len(last)-1].N++
	if Right(api.Unit{Funcs: l}) {
		t.Error("one context too many")
	}
}
