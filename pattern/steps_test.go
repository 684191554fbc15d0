package pattern

import (
	"pantomime/api"
	"reflect"
	"testing"
)

// want holds what Steps answers against the registers and steps that it has to answer.
func want(t *testing.T, s, steps string) {
	t.Helper()
	if got := answer(grown(t, s)); got != "0/"+steps {
		t.Errorf("%s:\n%s, want\n0/%s", s, got, steps)
	}
}

func wantNone(t *testing.T, s string, e string) {
	t.Helper()
	if got := answer(grown(t, s)); got != e+"/0 " {
		t.Errorf("%.100s: %.200s, want error %s", s, got, e)
	}
}

func TestKinds(t *testing.T) { // P12.1
	l := []int{Need, Member, Others, Open, Take, Skip, Remain, Close, Default, Assign, Key, Enter}
	for i, k := range l {
		if k != i+1 {
			t.Errorf("kind %s is %d", kinds[i+1], k)
		}
	}
}

func TestExamples(t *testing.T) { // P12.1
	want(t, "ArrPat(Name:a Default(Name:b Num#1))", "4 open 1<0; enter 0<1; take 2<1; assign 0<2 Name@2:a; take 3<1; default 3<0 Num@5#1; assign 0<3 Name@4:b; close 0<1")
	want(t, "ObjPat(PatProp(Text:a Name:a) Rest(Name:r))", "4 need 0<0; key 1<0 'a'; member 2<0 [1]; assign 0<2 Name@4:a; others 3<0 [1]; assign 0<3 Name@6:r")
}

func TestTargets(t *testing.T) { // P12.1
	want(t, "Name:a", "1 assign 0<0 Name@1:a")
	want(t, "Dot:k(This)", "1 assign 0<0 Dot@1:k(This@2)")
	want(t, "Index(Name:o Array(Num))", "1 assign 0<0 Index@1(Name@2:o Array@3(Num@4))")
	want(t, "Default(Name:a Num#1)", "1 default 0<0 Num@3#1; assign 0<0 Name@2:a")
	want(t, "Default(ArrPat Array)", "2 default 0<0 Array@3; open 1<0; enter 0<1; close 0<1")
	want(t, "Default(ObjPat Object)", "1 default 0<0 Object@3; need 0<0")
	// A default's first child is destructured whatever part of a pattern it is, and what stands in expressions is not looked at.
	want(t, "Default(Default(Name:a Num#1) Num#2)", "1 default 0<0 Num@5#2; default 0<0 Num@4#1; assign 0<0 Name@3:a")
	want(t, "Default(Name:a Rest)", "1 default 0<0 Rest@3; assign 0<0 Name@2:a")
	want(t, "Name#3!4:a(Hole)", "1 assign 0<0 Name@1#3!4:a(Hole@2)")
	want(t, "Dot#1", "1 assign 0<0 Dot@1#1")
	want(t, "Index(Hole Rest Num)", "1 assign 0<0 Index@1(Hole@2 Rest@3 Num@4)")
}

func TestArrays(t *testing.T) { // P12.1
	want(t, "ArrPat", "2 open 1<0; enter 0<1; close 0<1")
	want(t, "ArrPat(Hole Hole)", "2 open 1<0; enter 0<1; skip 0<1; skip 0<1; close 0<1")
	want(t, "ArrPat(Rest(Name:a))", "3 open 1<0; enter 0<1; remain 2<1; assign 0<2 Name@3:a; close 0<1")
	want(t, "ArrPat(Name:a Hole Rest(Dot:k(Name:o)))", "4 open 1<0; enter 0<1; take 2<1; assign 0<2 Name@2:a; skip 0<1; remain 3<1; assign 0<3 Dot@5:k(Name@6:o); close 0<1")
	want(t, "ArrPat(ArrPat(Name:a) Name:b)", "6 open 1<0; enter 0<1; take 2<1; open 3<2; enter 0<3; take 4<3; assign 0<4 Name@3:a; close 0<3; take 5<1; assign 0<5 Name@4:b; close 0<1")
	want(t, "ArrPat(Rest(ArrPat(Hole)))", "4 open 1<0; enter 0<1; remain 2<1; open 3<2; enter 0<3; skip 0<3; close 0<3; close 0<1")
	want(t, "ArrPat(Rest(Default(Name:a Num)))", "3 open 1<0; enter 0<1; remain 2<1; default 2<0 Num@5; assign 0<2 Name@4:a; close 0<1")
	want(t, "ArrPat(Default(ObjPat Null) Name:a)", "4 open 1<0; enter 0<1; take 2<1; default 2<0 Null@4; need 0<2; take 3<1; assign 0<3 Name@5:a; close 0<1")
	want(t, "ArrPat#3!1:x(Hole#1(Num))", "2 open 1<0; enter 0<1; skip 0<1; close 0<1")
}

func TestObjects(t *testing.T) { // P12.1
	want(t, "ObjPat", "1 need 0<0")
	want(t, "ObjPat(PatProp(Text:k Name:a) PatProp(Num#20 Name:b))", "3 need 0<0; member 1<0 'k'; assign 0<1 Name@4:a; member 2<0 '20'; assign 0<2 Name@7:b")
	want(t, "ObjPat(PatProp(Text Name:a) PatProp(Num Name:b))", "3 need 0<0; member 1<0; assign 0<1 Name@4:a; member 2<0 '0'; assign 0<2 Name@7:b")
	want(t, "ObjPat(PatProp(Num#9007199254740992 Name:a))", "2 need 0<0; member 1<0 '9007199254740992'; assign 0<1 Name@4:a")
	want(t, "ObjPat(PatProp!1(Name:k Name:a) PatProp(Text:l Name:b))", "4 need 0<0; key 1<0 Name@3:k; member 2<0 [1]; assign 0<2 Name@4:a; member 3<0 'l'; assign 0<3 Name@7:b")
	want(t, "ObjPat(PatProp!1(Text:k Name:a))", "3 need 0<0; key 1<0 Text@3:k; member 2<0 [1]; assign 0<2 Name@4:a")
	want(t, "ObjPat(PatProp(Text:k Default(Name:a Num#1)))", "2 need 0<0; member 1<0 'k'; default 1<0 Num@6#1; assign 0<1 Name@5:a")
	want(t, "ObjPat(PatProp(Text:k ObjPat(PatProp(Text:l Name:a))) PatProp(Text:m Name:b))", "4 need 0<0; member 1<0 'k'; need 0<1; member 2<1 'l'; assign 0<2 Name@7:a; member 3<0 'm'; assign 0<3 Name@10:b")
	want(t, "ObjPat(PatProp(Text:k ArrPat(Name:a)))", "4 need 0<0; member 1<0 'k'; open 2<1; enter 0<2; take 3<2; assign 0<3 Name@5:a; close 0<2")
	// With another M than 1 a key isn't computed.
	want(t, "ObjPat(PatProp!2(Text:k Name:a) PatProp!-1(Num#1 Name:b))", "3 need 0<0; member 1<0 'k'; assign 0<1 Name@4:a; member 2<0 '1'; assign 0<2 Name@7:b")
	want(t, "ObjPat#1:x(PatProp#3:y(Text#1!2:k(Num) Name:a))", "2 need 0<0; member 1<0 'k'; assign 0<1 Name@5:a")
}

func TestOthers(t *testing.T) { // P12.1
	want(t, "ObjPat(Rest(Name:r))", "2 need 0<0; others 1<0; assign 0<1 Name@3:r")
	want(t, "ObjPat(PatProp(Text Name:a) PatProp!1(Name:k Name:b) PatProp(Num#7 Name:c) Rest(Dot:l(Name:o)))", "8 need 0<0; key 1<0; member 2<0 [1]; assign 0<2 Name@4:a; key 3<0 Name@6:k; member 4<0 [3]; assign 0<4 Name@7:b; key 5<0 '7'; member 6<0 [5]; assign 0<6 Name@10:c; others 7<0 [1 3 5]; assign 0<7 Dot@12:l(Name@13:o)")
	// A pattern has the keys of its own children alone.
	want(t, "ObjPat(PatProp(Text:k ObjPat(PatProp(Text:l Name:a) Rest(Name:b))) PatProp(Text:m Name:c))", "6 need 0<0; member 1<0 'k'; need 0<1; key 2<0 'l'; member 3<1 [2]; assign 0<3 Name@7:a; others 4<1 [2]; assign 0<4 Name@9:b; member 5<0 'm'; assign 0<5 Name@12:c")
	want(t, "ObjPat(PatProp(Text:k ObjPat(PatProp!1(Text:l Name:a))) Rest(ObjPat(PatProp(Text:m Name:b) Rest(Name:c))))", "9 need 0<0; key 1<0 'k'; member 2<0 [1]; need 0<2; key 3<0 Text@6:l; member 4<2 [3]; assign 0<4 Name@7:a; others 5<0 [1]; need 0<5; key 6<0 'm'; member 7<5 [6]; assign 0<7 Name@12:b; others 8<5 [6]; assign 0<8 Name@14:c")
	want(t, "ObjPat(Rest(Default(ArrPat Num)))", "3 need 0<0; others 1<0; default 1<0 Num@5; open 2<1; enter 0<2; close 0<2")
}

func TestNoPattern(t *testing.T) { // P12.1
	for _, s := range []string{
		"0", "55", "Num", "Text:a", "This", "Array", "Object", "Call(Name:f)", "Chain(Dot#1:k(Name:o))", "Assign:=(Name:a Num)", "Params(Name:a)", "Decl(Name:a)", "Seq(Name:a Name:b)",
		"Hole", "Rest(Name:a)", "PatProp(Text:k Name:a)",
		"Default", "Default(Name:a)", "Default(Name:a Num Num)", "Default(Num Num)", "Default(Hole Num)", "Default(Rest(Name:a) Num)", "Default(PatProp(Text:k Name:a) Num)",
		"ArrPat(Num)", "ArrPat(Array)", "ArrPat(Spread(Name:a))", "ArrPat(PatProp(Text:k Name:a))", "ArrPat(Assign:=(Name:a Num))", "ArrPat(0)", "ArrPat(Default(Name:a))",
		"ArrPat(Rest(Name:a) Name:b)", "ArrPat(Rest(Name:a) Hole)", "ArrPat(Rest(Name:a) Rest(Name:b))", "ArrPat(Rest)", "ArrPat(Rest(Name:a Name:b))", "ArrPat(Rest(Hole))", "ArrPat(Rest(Rest(Name:a)))", "ArrPat(Rest(Num))",
		"ObjPat(Name:a)", "ObjPat(Hole)", "ObjPat(Default(Name:a Num))", "ObjPat(Prop(Text:k Name:a))", "ObjPat(Num Rest(Name:a))", "ObjPat(ObjPat)", "ObjPat(0)",
		"ObjPat(PatProp)", "ObjPat(PatProp(Text:k))", "ObjPat(PatProp(Text:k Name:a Name:b))", "ObjPat(PatProp!1(Text:k))", "ObjPat(PatProp!1)", "ObjPat(PatProp(Text:k Num))", "ObjPat(PatProp(Text:k Hole))", "ObjPat(PatProp(Text:k Rest(Name:a)))", "ObjPat(PatProp!1(Name:k PatProp(Text:k Name:a)))",
		"ObjPat(PatProp(Name:k Name:a))", "ObjPat(PatProp!2(Name:k Name:a))", "ObjPat(PatProp!-1(Dot:k Name:a))", "ObjPat(PatProp(Hole Name:a))", "ObjPat(PatProp(0 Name:a) Rest(Name:b))", "ObjPat(PatProp(Name:k Name:a) Rest(Name:b))",
		"ObjPat(Rest(Name:a) PatProp(Text:k Name:b))", "ObjPat(Rest(Name:a) Rest(Name:b))", "ObjPat(Rest)", "ObjPat(Rest(Name:a Name:b))", "ObjPat(Rest(Hole))", "ObjPat(Rest(Num))", "ObjPat(Rest(PatProp(Text:k Name:a)))",
		"ArrPat(Name:a ObjPat(PatProp(Text:k ArrPat(Name:b Num))))", "ArrPat(Num Name:a)", "ObjPat(PatProp(Num#1 ArrPat(Rest(Name:a) Name:b)) Rest(Name:c))",
	} {
		wantNone(t, s, "24")
	}
	for _, p := range []api.Node{{}, {Op: -api.NName}, {Op: api.NArrPat, Kids: []api.Node{{}}}, {Op: api.PLocal}} {
		if got := answer(p); got != "24/0 " {
			t.Errorf("%s: %s", shown(p), got)
		}
	}
}

func TestDeep(t *testing.T) { // P12.2
	for _, x := range []struct {
		form string
		deep int
	}{
		{"Name:a", 0}, {"Dot:k(ArrPat)", 0}, {"Index(ArrPat ObjPat)", 0}, {"Num", 0}, {"Hole(ArrPat)", 0}, {"Array(ArrPat)", 0}, {"Params(ArrPat)", 0}, {"0(ArrPat)", 0}, {"Func(ArrPat)", 0}, {"Name:a(ArrPat)", 0},
		{"ArrPat", 1}, {"ObjPat", 1}, {"ArrPat(Name:a Hole Num)", 1}, {"ArrPat(ArrPat)", 2}, {"ArrPat(Name:a ObjPat ArrPat(ArrPat) Name:b)", 3}, {"ArrPat(ArrPat(ArrPat) ObjPat)", 3},
		{"Default(Name:a ArrPat)", 0}, {"Default(ArrPat Num)", 1}, {"Default(ArrPat(ObjPat) ArrPat(ArrPat(ArrPat)))", 2}, {"Default", 0}, {"Default(ArrPat)", 1}, {"Default(Default(ArrPat))", 1}, {"Default(Num ArrPat ArrPat)", 0},
		{"Rest(Name:a)", 0}, {"Rest(ArrPat)", 1}, {"Rest", 0}, {"Rest(ObjPat(Rest(ArrPat)) ArrPat)", 2}, {"Rest(Name:a ArrPat)", 0},
		{"PatProp(Text:k ArrPat)", 1}, {"PatProp(ArrPat Name:a)", 0}, {"PatProp(ArrPat)", 0}, {"PatProp", 0}, {"PatProp!1(ArrPat ObjPat ArrPat(ArrPat))", 1},
		{"ObjPat(PatProp(Text:k ArrPat(Name:a)))", 2}, {"ObjPat(PatProp!1(ArrPat(ArrPat) Default(ArrPat Num)) Rest(Name:a))", 2}, {"ObjPat(PatProp(Text:k Name:a) PatProp(Text:l ObjPat) Rest(ArrPat(ArrPat)))", 3},
		{"ObjPat(ArrPat ArrPat(ArrPat))", 3}, {"ArrPat(PatProp(Num Rest(ArrPat)))", 2},
	} {
		if got := Deep(grown(t, x.form)); got != x.deep {
			t.Errorf("Deep(%s) = %d, want %d", x.form, got, x.deep)
		}
	}
	if got := Deep(api.Node{}); got != 0 {
		t.Errorf("Deep of a node without a kind: %d", got)
	}
}

func TestTooDeep(t *testing.T) { // P12.1, P12.2
	for _, form := range []string{"ArrPat(", "ObjPat(PatProp(Text:k @", "ArrPat(Rest(@", "ArrPat(Name:a ", "ObjPat(Rest(@", "ArrPat(Default(@ Num"} {
		at := func(count int, inner string) string {
			head, tail := form, ")"
			for i := range len(form) {
				if form[i] == '@' {
					head, tail = form[:i], form[i+1:]+"))"
				}
			}
			for range count {
				inner = head + inner + tail
			}
			return inner
		}
		for _, s := range []string{at(200, "Name:a"), at(199, "ArrPat"), at(199, "ObjPat"), at(198, "ObjPat(PatProp(Text:k ArrPat(Hole)))")} {
			p := grown(t, s)
			if _, _, e := Steps(p); e != api.OK || Deep(p) != 200 {
				t.Errorf("%s: %d at depth %d", form, e, Deep(p))
			}
		}
		for _, s := range []string{at(201, "Name:a"), at(200, "ArrPat"), at(200, "ObjPat(Num)"), at(5000, "Name:a"), "ArrPat(Num " + at(200, "Name:a") + ")", "ObjPat(" + at(200, "Name:a") + ")"} {
			wantNone(t, s, "10")
		}
		wantNone(t, at(200, "Num"), "24")
		wantNone(t, "ArrPat(Num "+at(199, "Name:a")+")", "24")
	}
	// Only the patterns of arrays and objects count.
	want(t, "Dot:k("+nested(300, "ArrPat(", "Name:a")+")", "1 assign 0<0 "+shown(grown(t, "Dot:k("+nested(300, "ArrPat(", "Name:a")+")")))
	if _, _, e := Steps(grown(t, "Default(Name:a "+nested(300, "ArrPat(", "Num")+")")); e != api.OK {
		t.Errorf("a default value told as too deep: %d", e)
	}
	if l, _, e := Steps(grown(t, nested(300, "Default(", "Name:a"))); e != api.ErrTarget || l != nil {
		t.Errorf("defaults of one child: %d", e)
	}
	deep := api.Node{Op: api.NName, S: "a"}
	for range 60000 {
		deep = api.Node{Op: api.NDefault, Kids: []api.Node{deep, {Op: api.NNum}}}
	}
	if l, regs, e := Steps(deep); e != api.OK || regs != 1 || len(l) != 60001 {
		t.Errorf("many defaults: %d, %d registers, %d steps", e, regs, len(l))
	}
}

func TestNewMemory(t *testing.T) { // P12.1
	s := "ObjPat(PatProp(Text:k Default(Name:a Array(Num))) PatProp!1(Call(Name:f) ArrPat(Index(Name:o Num) Rest(Dot:k(This)))) Rest(Dot:l(Name:o)))"
	p := grown(t, s)
	l, _, _ := Steps(p)
	before := told(l)
	if !reflect.DeepEqual(p, grown(t, s)) {
		t.Error("the argument was changed")
	}
	spoil(&p)
	if told(l) != before {
		t.Error("steps share memory with the argument")
	}
	first, _, _ := Steps(grown(t, s))
	for i := range first {
		spoil(&first[i].Node)
		for k := range first[i].Keys {
			first[i].Keys[k] = -1
			first[i].Keys = append(first[i].Keys, -1)
		}
		for j := range l {
			if j != i && told(first[j:j+1]) != told(l[j:j+1]) {
				t.Fatalf("steps %d and %d share memory", i, j)
			}
		}
		first[i] = l[i]
	}
}
