package cover

import (
	"pantomime/api"
	"pantomime/tree"
	"reflect"
	"slices"
	"strings"
	"testing"
)

type conversion func(api.Node) (api.Node, api.Errno)

// expect holds what a conversion makes of a tree against what it has to answer.
func expect(t *testing.T, name string, convert conversion, s, want string) {
	t.Helper()
	if got := outcome(convert(grown(t, s))); got != want {
		t.Errorf("%s(%.200s): %.300s, want %.300s", name, s, got, want)
	}
}

func wantPattern(t *testing.T, s, want string) {
	t.Helper()
	expect(t, "Pattern", Pattern, s, "0 "+want)
}

func wantNoPattern(t *testing.T, s string, e api.Errno) {
	t.Helper()
	expect(t, "Pattern", Pattern, s, refused(e))
}

func wantParams(t *testing.T, s, want string) {
	t.Helper()
	expect(t, "Params", Params, s, "0 "+want)
}

func wantNoParams(t *testing.T, s string, e api.Errno) {
	t.Helper()
	expect(t, "Params", Params, s, refused(e))
}

func TestTarget(t *testing.T) { // P5.1
	for _, s := range []string{"Name:a", "Name", "Name#1", "Dot:k(Name:o)", "Dot", "Dot!1", "Index(Name:o Num)", "Index"} {
		if !Target(grown(t, s)) {
			t.Errorf("not a target: %s", s)
		}
	}
	for _, s := range []string{"Dot#1:k(Name:o)", "Index#1(Name:o Num)", "Dot#-1:k(Name:o)", "Index#2", "ArrPat", "ObjPat", "Array", "Object", "Num", "Text:a", "This", "Call(Name:f)", "Chain(Dot:k(Name:o))", "Default(Name:a Num)", "Rest(Name:a)", "0", "163"} {
		if Target(grown(t, s)) {
			t.Errorf("a target: %s", s)
		}
	}
	if Target(api.Node{Op: -api.NName}) || Target(api.Node{}) {
		t.Error("a target of no kind")
	}
}

func TestPatternKeepsPatterns(t *testing.T) { // P5.1
	wantPattern(t, "Name:a", "Name@1:a")
	wantPattern(t, "Dot:k(Name:o)", "Dot@1:k(Name@2:o)")
	wantPattern(t, "Index(Array(Spread(Num)) Object(Prop#3(Text:a Num)))", "Index@1(Array@2(Spread@3(Num@4)) Object@5(Prop@6#3(Text@7:a Num@8)))")
	wantPattern(t, "ArrPat", "ArrPat@1")
	wantPattern(t, "ObjPat", "ObjPat@1")
	// What is a pattern already is not looked into, however wrong it is.
	wantPattern(t, "ArrPat#3!4:x(Array(Name:a) Num Spread Rest Hole)", "ArrPat@1#3!4:x(Array@2(Name@3:a) Num@4 Spread@5 Rest@6 Hole@7)")
	wantPattern(t, "ObjPat#1(Prop Assign:+= Rest(Object) Name:a)", "ObjPat@1#1(Prop@2 Assign@3:+= Rest@4(Object@5) Name@6:a)")
	wantPattern(t, "Name#5!6:a(Num)", "Name@1#5!6:a(Num@2)")
	wantPattern(t, "Array(ArrPat(Array) ObjPat(Num) Dot(Object))", "ArrPat@1(ArrPat@2(Array@3) ObjPat@4(Num@5) Dot@6(Object@7))")
}

func TestPatternOfArrays(t *testing.T) { // P5.1
	wantPattern(t, "Array", "ArrPat@1")
	wantPattern(t, "Array(Name:a Hole Assign:=(Name:b Num#1) Spread(Name:c))", "ArrPat@1(Name@2:a Hole@3 Default@4(Name@5:b Num@6#1) Rest@7(Name@8:c))")
	wantPattern(t, "Array(Hole Hole)", "ArrPat@1(Hole@2 Hole@3)")
	wantPattern(t, "Array(Array(Array Name:a) Object)", "ArrPat@1(ArrPat@2(ArrPat@3 Name@4:a) ObjPat@5)")
	wantPattern(t, "Array(Dot:k(Name:o) Index(Name:o Num))", "ArrPat@1(Dot@2:k(Name@3:o) Index@4(Name@5:o Num@6))")
	wantPattern(t, "Array(Spread(Array(Name:a Spread(Object))))", "ArrPat@1(Rest@2(ArrPat@3(Name@4:a Rest@5(ObjPat@6))))")
	wantPattern(t, "Array(Spread(ArrPat(Num)))", "ArrPat@1(Rest@2(ArrPat@3(Num@4)))")
	wantPattern(t, "Array(Spread(Dot:k(Name:o)))", "ArrPat@1(Rest@2(Dot@3:k(Name@4:o)))")
	wantPattern(t, "Array(Name:a Name:a)", "ArrPat@1(Name@2:a Name@3:a)")
	// Fields that the chapter does not mention are 0, but for those of nodes that are kept.
	wantPattern(t, "Array#1!2:x(Hole#3!4:y(Num) Spread#5!6:z(Name:c))", "ArrPat@1(Hole@2#3!4:y(Num@3) Rest@4(Name@5:c))")
}

func TestPatternOfDefaults(t *testing.T) { // P5.1
	wantPattern(t, "Array(Assign:=(ArrPat(Name:a) Array(Num)))", "ArrPat@1(Default@2(ArrPat@3(Name@4:a) Array@5(Num@6)))")
	wantPattern(t, "Array(Assign:=(ObjPat Object(Prop#3(Text:a))))", "ArrPat@1(Default@2(ObjPat@3 Object@4(Prop@5#3(Text@6:a))))")
	wantPattern(t, "Array(Assign:=(Index(Name:o Num) Assign:=(Name:b Num)))", "ArrPat@1(Default@2(Index@3(Name@4:o Num@5) Assign@6:=(Name@7:b Num@8)))")
	wantPattern(t, "Array(Assign#1!2:=(Name:a Hole))", "ArrPat@1(Default@2(Name@3:a Hole@4))")
	wantPattern(t, "Object(Prop(Text:k Assign:=(Name:a Num)))", "ObjPat@1(PatProp@2(Text@3:k Default@4(Name@5:a Num@6)))")
	for _, s := range []string{"Assign:+=(Name:a Num)", "Assign(Name:a Num)", "Assign:==(Name:a Num)", "Assign:=(Name:a)", "Assign:=", "Assign:=(Name:a Num Num)", "Assign:=(Num Num)", "Assign:=(Array Num)", "Assign:=(Object Num)", "Assign:=(Dot#1:k(Name:o) Num)", "Assign:=(Assign:=(Name:a Num) Num)", "Assign:=(Hole Num)", "Default(Name:a Num)", "Binary:==(Name:a Num)"} {
		wantNoPattern(t, "Array("+s+")", api.ErrTarget)
		wantNoPattern(t, "Object(Prop(Text:k "+s+"))", api.ErrTarget)
		wantNoParams(t, s, api.ErrTarget)
		wantNoParams(t, "Seq(Name:b "+s+")", api.ErrTarget)
	}
}

func TestPatternOfObjects(t *testing.T) { // P5.1
	wantPattern(t, "Object", "ObjPat@1")
	wantPattern(t, "Object(Prop(Text:k Name:a) Prop!1(Binary:+(Num Num) Name:b) Prop(Num#4 Array(Name:c)))", "ObjPat@1(PatProp@2(Text@3:k Name@4:a) PatProp@5!1(Binary@6:+(Num@7 Num@8) Name@9:b) PatProp@10(Num@11#4 ArrPat@12(Name@13:c)))")
	wantPattern(t, "Object(Prop!1(Array(Name:a) Object) Prop!1(Assign:=(Array Num) Name:b))", "ObjPat@1(PatProp@2!1(Array@3(Name@4:a) ObjPat@5) PatProp@6!1(Assign@7:=(Array@8 Num@9) Name@10:b))")
	wantPattern(t, "Object(Prop#3(Text:a))", "ObjPat@1(PatProp@2(Text@3:a Name@3:a))")
	wantPattern(t, "Object(Prop#3(Text:a Num#5))", "ObjPat@1(PatProp@2(Text@3:a Default@3(Name@3:a Num@4#5)))")
	wantPattern(t, "Object(Prop#3(Text:a Object(Prop#3(Text:b Num))))", "ObjPat@1(PatProp@2(Text@3:a Default@3(Name@3:a Object@4(Prop@5#3(Text@6:b Num@7)))))")
	wantPattern(t, "Object(Prop#4(Name:r))", "ObjPat@1(Rest@2(Name@3:r))")
	wantPattern(t, "Object(Prop#3(Text:a) Prop#4(Dot:k(Array)))", "ObjPat@1(PatProp@2(Text@3:a Name@3:a) Rest@4(Dot@5:k(Array@6)))")
	wantPattern(t, "Object(Prop(Text:k Object(Prop(Text:l Dot:m(Name:o)))))", "ObjPat@1(PatProp@2(Text@3:k ObjPat@4(PatProp@5(Text@6:l Dot@7:m(Name@8:o)))))")
	wantPattern(t, "Object#1!2:x(Prop!3:y(Hole Name:a) Prop#3!-4:z(Text#5!6:b(Num) Hole) Prop#4!7:v(Name:c))", "ObjPat@1(PatProp@2!3(Hole@3 Name@4:a) PatProp@5!-4(Text@6#5!6:b(Num@7) Default@6(Name@6:b Hole@8)) Rest@9(Name@10:c))")
}

func TestNoPattern(t *testing.T) { // P5.1
	for _, s := range []string{
		"Num", "Text:a", "This", "Hole", "Spread(Name:a)", "Rest(Name:a)", "Default(Name:a Num)", "PatProp(Text:k Name:a)", "Prop#3(Text:a)", "Params(Name:a)", "Seq(Name:a Name:b)", "Empty", "Call(Name:f)", "Func(Params Block)", "Chain(Dot#1:k(Name:o))", "Dot#1:k(Name:o)", "Index#1(Name:o Num)", "0", "55", "163",
		"Assign:=(Name:a Num)", "Assign:=(ArrPat Num)",
		"Array(Num)", "Array(Name:a Num)", "Array(Dot#1:k(Name:o))", "Array(Spread(Name:a) Name:b)", "Array(Spread(Name:a) Hole)", "Array(Spread(Name:a) Spread(Name:b))", "Array(Spread)", "Array(Spread(Name:a Name:b))", "Array(Spread(Assign:=(Name:a Num)))", "Array(Spread(Hole))", "Array(Spread(Spread(Name:a)))", "Array(Spread(Num))", "Array(Rest(Name:a))", "Array(Array(Array(Num)))",
		"Object(Name:a)", "Object(Hole)", "Object(Spread(Name:a))", "Object(PatProp(Text:k Name:a))", "Object(Rest(Name:a))",
		"Object(Prop)", "Object(Prop(Text:k))", "Object(Prop(Text:k Name:a Name:b))", "Object(Prop(Text:k Num))", "Object(Prop(Text:k Hole))", "Object(Prop(Text:k Spread(Name:a)))",
		"Object(Prop#1(Text:k Func#16(Params Block)))", "Object(Prop#2(Text:k Name:a))", "Object(Prop#5(Text:k Name:a))", "Object(Prop#6(Text:k Name:a))", "Object(Prop#-1(Text:k Name:a))",
		"Object(Prop#3)", "Object(Prop#3(Name:a))", "Object(Prop#3(Num))", "Object(Prop#3(Num Num))", "Object(Prop#3(Text:a Num Num))",
		"Object(Prop#4)", "Object(Prop#4(Name:a Name:b))", "Object(Prop#4(Name:a) Prop#3(Text:b))", "Object(Prop#4(Name:a) Prop#4(Name:b))", "Object(Prop#4(Array))", "Object(Prop#4(ArrPat))", "Object(Prop#4(ObjPat))", "Object(Prop#4(Object))", "Object(Prop#4(Assign:=(Name:a Num)))", "Object(Prop#4(Dot#1:k(Name:o)))", "Object(Prop#4(Num))",
	} {
		wantNoPattern(t, s, api.ErrTarget)
	}
	if n, e := Pattern(api.Node{}); e != api.ErrTarget || !reflect.DeepEqual(n, api.Node{}) {
		t.Error("a node without a kind")
	}
}

func TestPatternDepth(t *testing.T) { // P5.1
	for _, x := range []struct {
		form string // its hole is the node of which depth tells
		size int    // how much deeper that node is than the form
	}{
		{"Array(@)", 1}, {"Array(Name:a @)", 1}, {"Array(Spread(@))", 2}, {"Object(Prop(Text:k @))", 2}, {"Object(Prop!1(Num @))", 2},
	} {
		around := func(depth int, s string) string {
			return nested(depth-1-x.size, "Array", strings.Replace(x.form, "@", s, 1))
		}
		for _, s := range []string{"Name:a", "Dot:k(Name:o)", "Array", "Object", "ArrPat", "Array(Hole)", nested(300, "ArrPat", "Num"), nested(300, "Dot:k", "Name:o")} {
			if _, e := Pattern(grown(t, around(200, s))); e != api.OK {
				t.Errorf("%s of %.30s: %d", x.form, s, e)
			}
		}
		for _, s := range []string{"Name:a", "Dot:k(Name:o)", "Array", "Object", "ArrPat", "ObjPat", "Num", "Assign:=(Num Num)", "Assign:+=(Name:a Num)", "Spread", "Spread(Assign)", "Prop", "0"} {
			wantNoPattern(t, around(201, s), api.ErrDeep)
		}
		wantNoPattern(t, around(200, "Num"), api.ErrTarget)
		wantNoPattern(t, around(200, "Array(Name:a)"), api.ErrDeep)
	}
	wantNoPattern(t, nested(50000, "Array", "Name:a"), api.ErrDeep)
}

func TestPatternDepthOfParts(t *testing.T) { // P5.1
	at := func(depth int, s string) string { return nested(depth-1, "Array", s) }
	for _, s := range []string{at(200, "Array(Hole Hole)"), at(199, "Assign:=(Name:a "+nested(300, "Array", "Num")+")"), at(198, "Object(Prop#3(Text:a))"), at(197, "Object(Prop#3(Text:a Num))"), at(197, "Object(Prop!1("+nested(300, "Array", "Num")+" Assign:=(Name:a Num)))"), at(198, "Object(Prop#4(Name:r))"), at(200, "Object")} {
		if _, e := Pattern(grown(t, s)); e != api.OK {
			t.Errorf("%s: %d", strings.TrimLeft(s, "Ary("), e)
		}
	}
	for _, s := range []string{
		at(200, "Assign:=(Name:a Num)"), at(200, "Assign:=(Num Num)"), // the target of an NDefault
		at(200, "Spread(Name:a)"), at(200, "Spread(Assign:=(Name:a Num))"), at(200, "Spread(Num)"), at(200, "Spread(Hole)"),
		at(200, "Object(Prop#3(Text:a))"), at(200, "Object(Num)"), at(200, "Object(Prop#4(Name:r) Num)"),
		at(199, "Object(Prop#3(Text:a))"), at(198, "Object(Prop#3(Text:a Num))"), at(199, "Object(Prop(Text:k Name:a))"), at(199, "Object(Prop(Text:k Hole))"), at(198, "Object(Prop(Text:k Assign:=(Name:a Num)))"),
		at(199, "Object(Prop#4(Name:r))"), at(199, "Object(Prop#4(Num))"),
	} {
		wantNoPattern(t, s, api.ErrDeep)
	}
	// A node itself is asked ahead of its children.
	for _, s := range []string{at(200, "Assign:+=(Name:a Num)"), at(200, "Assign:=(Name:a)"), at(200, "Spread(Name:a Name:b)"), at(200, "Spread"), at(199, "Object(Prop#1(Text:k Name:a))"), at(199, "Object(Prop(Text:k))"), at(199, "Object(Prop#4(Name:r) Prop#4(Name:r))")} {
		wantNoPattern(t, s, api.ErrTarget)
	}
}

// TestKeysAreNotConverted holds keys of which depth does not tell against the names and defaults behind them, of which it does.
func TestKeysAreNotConverted(t *testing.T) { // P5.1
	for _, key := range []string{"Name:k", "Num#1", "Hole", "0", "Array", "Assign:=(Name:a Num)"} {
		for _, rest := range []string{"", " Num", " Name:a"} {
			s := "Object(Prop#3(" + key + rest + "))"
			for depth := 196; depth <= 199; depth++ {
				wantNoPattern(t, nested(depth-1, "Array", s), api.ErrTarget)
				wantNoParams(t, nested(depth-2, "Array", s), api.ErrTarget)
			}
			wantNoPattern(t, nested(199, "Array", s), api.ErrDeep)
			wantNoParams(t, nested(198, "Array", s), api.ErrDeep)
		}
	}
	for _, s := range []string{"Object(Prop#3(Text:k))", "Object(Prop#3(Text:k Num))", "Object(Prop#3(Text:k) Prop#3(Name:k))"} {
		wantNoPattern(t, nested(198, "Array", s), api.ErrDeep)
		wantNoParams(t, nested(197, "Array", s), api.ErrDeep)
	}
	for _, key := range []string{"Text:k", "Num#1", "Hole", "Array(Array)"} {
		wantNoPattern(t, nested(198, "Array", "Object(Prop("+key+" Num))"), api.ErrDeep)
		wantNoPattern(t, nested(197, "Array", "Object(Prop("+key+" Num))"), api.ErrTarget)
	}
	// The first error from the left is told.
	wantNoPattern(t, nested(198, "Array", "Object(Prop#3(Name:k) Prop#3(Text:k))"), api.ErrTarget)
	wantNoPattern(t, nested(198, "Array", "Object(Prop#3(Text:k) Num)"), api.ErrDeep)
}

func TestFirstError(t *testing.T) { // P5.1
	tooDeep := nested(200, "Array", "Name:z")
	for _, x := range []struct {
		s string
		e api.Errno
	}{
		{"Array(Num " + tooDeep + ")", api.ErrTarget},
		{"Array(" + tooDeep + " Num)", api.ErrDeep},
		{"Array(Array(Name:a Num) " + tooDeep + ")", api.ErrTarget},
		{"Array(Spread(" + tooDeep + ") Name:a)", api.ErrTarget},
		{"Array(" + tooDeep + " Spread(Name:a) Name:b)", api.ErrDeep},
		{"Object(Prop(Text:k " + tooDeep + ") Name:a)", api.ErrDeep},
		{"Object(Name:a Prop(Text:k " + tooDeep + "))", api.ErrTarget},
		{"Object(Prop#4(Name:a) Prop(Text:k " + tooDeep + "))", api.ErrTarget},
		{"Object(Prop(Text:k " + tooDeep + ") Prop#4(Name:a) Prop#3(Text:b))", api.ErrDeep},
	} {
		wantNoPattern(t, x.s, x.e)
		wantNoParams(t, x.s, x.e)
	}
	wantNoParams(t, "Seq(Dot:k(Name:o) "+tooDeep+")", api.ErrTarget)
	wantNoParams(t, "Seq(Array(Dot:k(Name:o)) "+tooDeep+")", api.ErrTarget)
	wantNoParams(t, "Seq("+tooDeep+" Dot:k(Name:o))", api.ErrDeep)
	wantNoParams(t, "Array(Dot:k(Name:o) "+tooDeep+")", api.ErrDeep)
	wantNoParams(t, "Seq(Spread(Name:a) "+tooDeep+")", api.ErrTarget)
}

func TestParams(t *testing.T) { // P5.1
	wantParams(t, "Empty", "Params@1")
	wantParams(t, "Empty#1!2:x(Num)", "Params@1")
	wantParams(t, "Seq", "Params@1")
	wantParams(t, "Seq#1!2:x(Name:a Name:b)", "Params@1(Name@2:a Name@3:b)")
	wantParams(t, "Seq(Name:a Name:a Assign:=(Name:b Dot:k(Name:o)) Spread(Name:c))", "Params@1(Name@2:a Name@3:a Default@4(Name@5:b Dot@6:k(Name@7:o)) Rest@8(Name@9:c))")
	wantParams(t, "Name:a", "Params@1(Name@1:a)")
	wantParams(t, "Assign:=(ArrPat(Name:a) Num)", "Params@1(Default@1(ArrPat@2(Name@3:a) Num@4))")
	wantParams(t, "Spread(Name:a)", "Params@1(Rest@1(Name@2:a))")
	wantParams(t, "Spread(Array(Name:a Hole))", "Params@1(Rest@1(ArrPat@2(Name@3:a Hole@4)))")
	wantParams(t, "Array(Name:a Hole Spread(Object(Prop#3(Text:b))))", "Params@1(ArrPat@1(Name@2:a Hole@3 Rest@4(ObjPat@5(PatProp@6(Text@7:b Name@7:b)))))")
	wantParams(t, "Object(Prop!1(Dot:k(Name:o) Assign:=(Name:a Index(Name:o Num))) Prop#4(Name:r))", "Params@1(ObjPat@1(PatProp@2!1(Dot@3:k(Name@4:o) Default@5(Name@6:a Index@7(Name@8:o Num@9))) Rest@10(Name@11:r)))")
	// Only what stands in the place of a target binds a name.
	wantParams(t, "ArrPat(Rest(Name:a Dot) Default(Name:b Dot#1) PatProp(Index Name:c) PatProp(Dot) Rest Default)", "Params@1(ArrPat@1(Rest@2(Name@3:a Dot@4) Default@5(Name@6:b Dot@7#1) PatProp@8(Index@9 Name@10:c) PatProp@11(Dot@12) Rest@13 Default@14))")
}

func TestNoParams(t *testing.T) { // P5.1
	for _, s := range []string{
		"Hole", "Num", "Params(Name:a)", "Rest(Name:a)", "Default(Name:a Num)", "Call(Name:f)", "0", "Dot#1:k(Name:o)",
		"Seq(Hole)", "Seq(Name:a Hole)", "Seq(Name:a Num)", "Seq(Seq(Name:a Name:b))", "Seq(Empty)", "Seq(Spread(Name:a) Name:b)", "Seq(Spread(Name:a) Spread(Name:b))",
		"Spread", "Spread(Name:a Name:b)", "Spread(Assign:=(Name:a Num))", "Spread(Hole)", "Assign:+=(Name:a Num)",
		// What is a target, but no name.
		"Dot:k(Name:o)", "Index(Name:o Num)", "Assign:=(Dot:k(Name:o) Num)", "Spread(Index(Name:o Num))", "Seq(Name:a Dot:k(Name:o))", "Array(Dot:k(Name:o))", "Array(Array(Assign:=(Index(Name:o Num) Num)))", "Array(Spread(Dot:k(Name:o)))", "Object(Prop(Text:k Dot:k(Name:o)))", "Object(Prop(Text:k Assign:=(Dot:k(Name:o) Num)))", "Object(Prop#4(Dot:k(Name:o)))",
		// The same in patterns that are kept, and members of an optional chain.
		"ArrPat(Name:a Dot:k(Name:o))", "ArrPat(Dot#1:k(Name:o))", "ObjPat(Index#1)", "ObjPat(PatProp(Text:k Index(Name:o Num)))", "ObjPat(PatProp(Text:k Default(Dot#1:k Num)))", "ObjPat(Rest(Dot#2))", "ArrPat(ArrPat(Rest(ObjPat(Index#-1))))", "Assign:=(ArrPat(Dot) Num)", "Array(Assign:=(ObjPat(Rest(Index)) Num))",
	} {
		wantNoParams(t, s, api.ErrTarget)
	}
	if n, e := Params(api.Node{}); e != api.ErrTarget || !reflect.DeepEqual(n, api.Node{}) {
		t.Error("a node without a kind")
	}
}

func TestParamsDepth(t *testing.T) { // P5.1
	for _, s := range []string{nested(198, "Array", "Name:a"), nested(199, "Array", "Hole"), nested(197, "Array", "Spread(Name:a)"), nested(500, "ArrPat", "Name:a")} {
		if _, e := Params(grown(t, s)); e != api.OK {
			t.Errorf("%.30s: %d", s, e)
		}
		if _, e := Params(grown(t, "Seq(Name:b "+s+")")); e != api.OK {
			t.Errorf("behind a name, %.30s: %d", s, e)
		}
	}
	wantNoParams(t, nested(199, "Array", "Name:a"), api.ErrDeep)
	wantNoParams(t, nested(198, "Array", "Spread(Name:a)"), api.ErrDeep)
	wantNoParams(t, nested(198, "Array", "Assign:=(Name:a Num)"), api.ErrDeep)
	wantNoParams(t, nested(500, "ArrPat", "Dot"), api.ErrTarget)
}

func TestNames(t *testing.T) { // P5.1
	for s, want := range map[string]string{
		"Name:a":                               "a",
		"Name:a(Name:b)":                       "a",
		"Params(Name:a Name:b Name:a)":         "a b a",
		"Params":                               "",
		"ArrPat(Name:b Hole Name:a)":           "b a",
		"ArrPat(ArrPat(Name:c Name:b) Name:a)": "c b a",
		"ObjPat(PatProp(Name:k Name:a) PatProp!1(ArrPat(Name:l) Name:b) Rest(Name:c))": "a b c",
		"Default(Name:a Name:b)":                        "a",
		"Default(ArrPat(Name:a Name:b) ArrPat(Name:c))": "a b",
		"Rest(Name:a Name:b)":                           "a",
		"PatProp(Name:a Name:b Name:c)":                 "b",
		"Params(Default(ObjPat(PatProp(Text:k Default(Name:a Name:x)) Name:b) Name:y) Rest(ArrPat(Name:c)))": "a b c",
		"ArrPat(Params(Name:a Dot(Name:b)) Name:c)":                                                          "a c",
		"Default":         "",
		"Rest":            "",
		"PatProp":         "",
		"PatProp(Name:a)": "",
		"Dot:k(Name:o)":   "",
		"ArrPat(Index(Name:o Name:i) Dot#1(Name:o) Hole(Name:h) Spread(Name:s) Array(Name:r) Name:a)": "a",
		"Array(Name:a)":        "",
		"Assign:=(Name:a Num)": "",
		"Decl(Name:a)":         "",
		"Text:a":               "",
		"0(Name:a)":            "",
	} {
		if got := strings.Join(Names(grown(t, s)), " "); got != want {
			t.Errorf("Names(%s): %s", s, got)
		}
	}
	if l := Names(api.Node{Op: api.NName}); len(l) != 1 || l[0] != "" {
		t.Errorf("a name of no letters: %q", l)
	}
	p, _ := Pattern(grown(t, "Array(Name:a Hole Assign:=(Name:b Name:x) Spread(Name:c))"))
	if got := strings.Join(Names(p), " "); got != "a b c" {
		t.Errorf("the document's example: %s", got)
	}
}

func TestSimple(t *testing.T) { // P5.1
	for _, s := range []string{"Params", "Params(Name:a)", "Params(Name:a Name:b Name:a)", "Params#1!2:x(Name)"} {
		if !Simple(grown(t, s)) {
			t.Errorf("not simple: %s", s)
		}
	}
	for _, s := range []string{"Params(Default(Name:a Num))", "Params(Name:a Rest(Name:b))", "Params(ArrPat Name:a)", "Params(Name:a ObjPat)", "Params(Dot:k(Name:o))", "Params(Params)", "Params(Num)", "Params(0)", "Name:a", "ArrPat(Name:a)", "Seq(Name:a Name:b)", "Empty", "0"} {
		if Simple(grown(t, s)) {
			t.Errorf("simple: %s", s)
		}
	}
}

func TestAgainUnchanged(t *testing.T) { // P5.2
	c, turned := chance(5), 0
	for range 3000 {
		s := c.expression(4)
		p, e := Pattern(grown(t, s))
		if e != api.OK {
			continue
		}
		turned++
		again, e := Pattern(p)
		if e != api.OK || !reflect.DeepEqual(again, p) {
			t.Errorf("%s: again %s", s, outcome(again, e))
		}
		if !tree.Right(p) || !isPattern(p) {
			t.Errorf("%s: not a well-formed pattern: %s", s, shown(p))
		}
	}
	if turned < 1000 {
		t.Errorf("%d patterns", turned)
	}
}

func TestNamesOfParams(t *testing.T) { // P5.2
	c, turned := chance(6), 0
	for range 3000 {
		s := with("Seq", []string{c.element(3), c.element(3), c.one("Name:x", "Spread("+c.expression(2)+")")})
		p, e := Params(grown(t, s))
		if e != api.OK {
			continue
		}
		turned++
		var l []string
		for _, k := range p.Kids {
			l = append(l, Names(k)...)
		}
		if !slices.Equal(Names(p), l) || !tree.Right(p) {
			t.Errorf("%s: %s has %v, its children %v", s, shown(p), Names(p), l)
		}
	}
	if turned < 300 {
		t.Errorf("%d lists of parameters", turned)
	}
}

func TestSharesNothing(t *testing.T) { // P5.1, by the rule R5
	c := chance(7)
	for range 2000 {
		s := "Array(" + c.element(3) + " " + c.element(3) + ")"
		for _, convert := range []conversion{Pattern, Params} {
			n, kept := grown(t, s), grown(t, s)
			p, e := convert(n)
			if !reflect.DeepEqual(n, kept) {
				t.Errorf("%s: its argument changed", s)
			}
			before := outcome(p, e)
			spoil(&n)
			if outcome(p, e) != before {
				t.Errorf("%s: the answer shares memory with the argument", s)
			}
			spoil(&kept)
			spoil(&p)
			if !reflect.DeepEqual(n, kept) {
				t.Errorf("%s: the argument shares memory with the answer", s)
			}
		}
	}
}

func TestListsOfOneAnswer(t *testing.T) { // P5.1, by the rule R5
	kids := []api.Node{{Op: api.NName, S: "o"}, {Op: api.NNum}}
	key := api.Node{Op: api.NText, S: "k", Kids: kids}
	member := api.Node{Op: api.NIndex, Kids: kids}
	hole := api.Node{Op: api.NHole, Kids: kids}
	property := api.Node{Op: api.NProp, N: api.PropShort, Kids: []api.Node{key, member}}
	object := api.Node{Op: api.NObject, Kids: []api.Node{property, property}}
	p, e := Pattern(api.Node{Op: api.NArray, Kids: []api.Node{hole, member, object, object, hole}})
	if e != api.OK {
		t.Fatal(e)
	}
	for i := range p.Kids {
		others := slices.Delete(slices.Clone(p.Kids), i, i+1)
		before := tree.Copy(api.Node{Kids: others})
		spoil(&p.Kids[i])
		if !reflect.DeepEqual(api.Node{Kids: others}, before) {
			t.Errorf("child %d shares memory with another", i)
		}
	}
	if l := p.Kids[2].Kids[0].Kids; l[0].Kids[0].S != "o!" || l[1].Kids[1].Kids[0].S != "o!" {
		t.Errorf("lists within one property are shared: %s", shown(p.Kids[2]))
	}
}

func TestAnyNode(t *testing.T) { // P5.1, by the rules R1 and R2
	c := chance(8)
	for range 20000 {
		n := c.anyNode(5)
		for _, convert := range []conversion{Pattern, Params} {
			p, e := convert(n)
			if e != api.OK && !reflect.DeepEqual(p, api.Node{}) {
				t.Errorf("%s: %s", shown(n), outcome(p, e))
			}
			if e != api.OK && e != api.ErrTarget {
				t.Errorf("%s: %d", shown(n), e)
			}
		}
		Names(n)
		if Simple(n) && len(Names(n)) != len(n.Kids) {
			t.Errorf("%s is simple, of other names than its children", shown(n))
		}
		if Target(n) != (n.Op == api.NName || n.N == 0 && (n.Op == api.NDot || n.Op == api.NIndex)) {
			t.Errorf("Target(%s)", shown(n))
		}
	}
}
