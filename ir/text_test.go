package ir

import (
	"math"
	"pantomime/api"
	"pantomime/literal"
	"reflect"
	"strconv"
	"strings"
	"testing"
)

// sampleUnit has functions with all that a line can hold.
func sampleUnit(t *testing.T) api.Unit {
	t.Helper()
	u := unitOf(t, "(Scope 2 (Block (Do (SetHeld 0 1 (Num -9007199254740992))) (Do (Func 1))))", "(Loop 3 4096 (Binary =instanceof (Arg -1) (Held 0 1)) (Again 4096) (None))")
	u.Funcs[1].Name = "a \"b\"\n"
	u.Funcs[1].Kind, u.Funcs[1].Length, u.Funcs[1].Locals = 255, 1024, 4096
	u.Funcs = append(u.Funcs, api.Func{Body: api.Node{Op: api.PReturn, Kids: []api.Node{{Op: api.PText, S: " \t\x00\x7f\xff\\'`$ "}}}})
	return u
}

const sampleText = `unit 3
func "" 0 0 3
Scope 2 0 1 ""
Block 0 0 2 ""
Do 0 0 1 ""
SetHeld 0 1 1 ""
Num -9007199254740992 0 0 ""
Do 0 0 1 ""
Func 1 0 0 ""
func "a \"b\"\n" 255 1024 4096
Loop 3 4096 3 ""
Binary 0 0 2 "instanceof"
Arg -1 0 0 ""
Held 0 1 0 ""
Again 4096 0 0 ""
None 0 0 0 ""
func "" 0 0 0
Return 0 0 1 ""
Text 0 0 0 " \t\0\x7f\xff\\'` + "`" + `$ "
`

func TestText(t *testing.T) { // P11.2
	for _, x := range []struct {
		u    api.Unit
		want string
	}{
		{api.Unit{Funcs: []api.Func{{Body: api.Node{Op: api.PNone}}}}, "unit 1\nfunc \"\" 0 0 0\nNone 0 0 0 \"\"\n"},
		{api.Unit{Funcs: []api.Func{{Body: api.Node{Op: api.PNone, At: 77, Kids: []api.Node{}}}}}, "unit 1\nfunc \"\" 0 0 0\nNone 0 0 0 \"\"\n"},
		{sampleUnit(t), sampleText},
	} {
		before := copiedUnit(x.u)
		if got, e := Text(x.u); got != x.want || e != api.OK {
			t.Errorf("%d\n got %s\nwant %s", e, got, x.want)
		}
		if !Same(x.u, before) {
			t.Error("the argument changed")
		}
	}
	for _, u := range []api.Unit{{}, unitOf(t, "(Undef)"), unitOf(t, "(Do (Local 3))"), unitOf(t, "(None)", "(Held 0 0)"), {Funcs: []api.Func{{Kind: 256, Body: api.Node{Op: api.PNone}}}}, {Funcs: []api.Func{{}}}} {
		if s, e := Text(u); s != "" || e != api.ErrArg {
			t.Errorf("%v: %d %q", u, e, s)
		}
	}
}

func TestEachKindIsWritten(t *testing.T) { // P11.2, P11.3, P11.4
	for name := range kinds() {
		_, n := sample(t, name)
		u := placed(n)
		s, e := Text(u)
		if line := "\n" + name + " " + strconv.Itoa(n.N) + " " + strconv.Itoa(n.M) + " " + strconv.Itoa(len(n.Kids)) + " " + literal.Quote(n.S) + "\n"; e != api.OK || !strings.Contains(s, line) {
			t.Errorf("%s: %d, not in %s", line, e, s)
		}
		reads(t, s, u)
	}
}

func TestSame(t *testing.T) { // P11.2
	u := sampleUnit(t)
	if !Same(u, copiedUnit(u)) || !Same(api.Unit{}, api.Unit{Funcs: []api.Func{}}) || Same(u, api.Unit{}) || Same(api.Unit{}, u) {
		t.Error("whole units")
	}
	for i := range u.Funcs {
		other := copiedUnit(u)
		for _, n := range places(&other.Funcs[i].Body) {
			n.At += 5
			if n.Kids == nil {
				n.Kids = []api.Node{}
			}
		}
		if !Same(u, other) || !Same(other, u) {
			t.Errorf("function %d with other At", i)
		}
		for name, change := range map[string]func(*api.Func){
			"Name": func(f *api.Func) { f.Name += "x" }, "Kind": func(f *api.Func) { f.Kind++ }, "Length": func(f *api.Func) { f.Length-- }, "Locals": func(f *api.Func) { f.Locals++ },
		} {
			other := copiedUnit(u)
			change(&other.Funcs[i])
			if Same(u, other) || Same(other, u) {
				t.Errorf("function %d with another %s", i, name)
			}
		}
		for k := range places(&u.Funcs[i].Body) {
			for name, change := range map[string]func(*api.Node){
				"Op": func(n *api.Node) { n.Op++ }, "N": func(n *api.Node) { n.N++ }, "M": func(n *api.Node) { n.M-- }, "S": func(n *api.Node) { n.S += " " }, "one more": func(n *api.Node) { n.Kids = append(n.Kids, api.Node{}) },
			} {
				other := copiedUnit(u)
				change(places(&other.Funcs[i].Body)[k])
				if Same(u, other) || Same(other, u) {
					t.Errorf("function %d, node %d, another %s", i, k, name)
				}
			}
		}
	}
	less := copiedUnit(u)
	less.Funcs = less.Funcs[:2]
	if Same(u, less) || Same(less, u) {
		t.Error("fewer functions")
	}
	less.Funcs[0], less.Funcs[1] = less.Funcs[1], less.Funcs[0]
	if Same(less, api.Unit{Funcs: u.Funcs[:2]}) {
		t.Error("another order")
	}
	// Units that aren't well-formed are compared like others.
	odd := api.Unit{Funcs: []api.Func{{Kind: -1, Body: api.Node{Op: -7, S: "x", Kids: []api.Node{{Op: api.NName}}}}}}
	if !Same(odd, copiedUnit(odd)) {
		t.Error("an odd unit")
	}
}

func TestCalls(t *testing.T) { // P11.2
	for s, want := range map[string]int{"(Undef)": 0, "(Call e)": 1, "(CallOn e e)": 1, "(New e)": 1, "(Do (Call (New e (CallOn e e (Spread (Call e))))))": 4, "(Block s (Do (New e)) (Do (Need e)) (Do (Call e)))": 2, "(Get e e)": 0, "(Func 1)": 0, "(Spread e)": 0, "(None (Call) (New) (CallOn (Call)))": 4} {
		if got := Calls(made(t, s)); got != want {
			t.Errorf("%s: %d, want %d", s, got, want)
		}
	}
	count := 0
	for op := -10; op < 300; op++ {
		count += Calls(api.Node{Op: op, N: -1})
	}
	if count != 3 || Calls(api.Node{}) != 0 || Calls(api.Node{Op: api.NCall}) != 0 || Calls(api.Node{Op: math.MinInt, Kids: []api.Node{{Op: api.PCall}}}) != 1 {
		t.Errorf("%d kinds", count)
	}
	if Calls(nested(api.PNew, 1<<16, api.Node{})) != 1<<16-1 {
		t.Error("a very deep tree")
	}
}

// reads holds what Read answers of a text against a unit.
func reads(t *testing.T, s string, want api.Unit) {
	t.Helper()
	u, line, e := Read(s)
	if e != api.OK || line != 0 || !Same(u, want) {
		t.Fatalf("%.300s: %d in line %d", s, e, line)
	}
	for _, f := range u.Funcs {
		for _, n := range places(&f.Body) {
			if n.At != 0 {
				t.Fatalf("%.300s: At %d", s, n.At)
			}
		}
	}
	if again, e := Text(u); again != s || e != api.OK {
		t.Fatalf("%.300s: %d, written as %.300s", s, e, again)
	}
}

// fails holds the error that Read answers of a text against what it has to be.
func fails(t *testing.T, s string, line int, e api.Errno) {
	t.Helper()
	u, gotLine, got := Read(s)
	if got != e || gotLine != line || !reflect.DeepEqual(u, api.Unit{}) {
		t.Errorf("%.300q: %d in line %d, want %d in line %d", s, got, gotLine, e, line)
	}
}

func TestRead(t *testing.T) { // P11.3
	reads(t, "unit 1\nfunc \"\" 0 0 0\nNone 0 0 0 \"\"\n", api.Unit{Funcs: []api.Func{{Body: api.Node{Op: api.PNone}}}})
	reads(t, sampleText, sampleUnit(t))
	for i := range sampleText {
		fails(t, sampleText[:i], strings.Count(sampleText[:i], "\n")+1, api.ErrEnd)
	}
	after := strings.Count(sampleText, "\n") + 1
	for _, s := range []string{"\n", " ", "x", "None 0 0 0 \"\"\n", "\x00", "unit 1\n", "\n\n", "\r\n", sampleText} {
		fails(t, sampleText+s, after, api.ErrForm)
	}
}

func TestReadWrongLines(t *testing.T) { // P11.3
	const first, second, third = "unit 1", "func \"f\" 0 0 1", "Do 0 0 1 \"\""
	const end = "\nText 0 0 0 \"\"\n"
	if _, _, e := Read(first + "\n" + second + "\n" + third + end); e != api.OK {
		t.Fatal(e)
	}
	for _, s := range []string{"", " ", "unit", "unit ", "unit 0", "unit -1", "unit 4097", "unit 9007199254740993", "unit 01", "unit +1", "unit 1.", "unit 0x1", "unit x", "unit  1", " unit 1", "unit 1 ", "unit 1 1", "unit\t1", "Unit 1", "units 1", "unit1", "unit 1\r", "func \"\" 0 0 0", "unit \"1\"", "unit NaN", "unit 1\x00"} {
		fails(t, s+"\n"+second+"\n"+third+end, 1, api.ErrForm)
		fails(t, s, 1, api.ErrEnd)
	}
	for _, s := range []string{"", " ", "func", "func ", "func \"f\"", "func \"f\" 0", "func \"f\" 0 0", "func \"f\" 0 0 ", "func \"f\" 0 0 1 ", "func \"f\" 0 0 1 1", "func \"f\"  0 0 1", "func  \"f\" 0 0 1", " func \"f\" 0 0 1", "func f 0 0 1", "func 'f' 0 0 1", "func \"f 0 0 1", "func f\" 0 0 1", "func \"f\"0 0 1", "func\"f\" 0 0 1", "func \"f\" \"\" 0 0 1", "func \"f\" 00 0 1", "func \"f\" -0 0 1", "func \"f\" 0 +0 1", "func \"f\" 0 0 1x", "func \"f\" 0 0 x", "func \"f\" 0 NaN 1", "func \"f\" 0  1", "func \"f\" 9007199254740993 0 1", "func \"f\" 0 -9007199254740993 1", "func \"f\" 0 0 99999999999999999999", "func \"\\x66\" 0 0 1", "func \"\\q\" 0 0 1", "func \"\\xFF\" 0 0 1", "func \"\xff\" 0 0 1", "func \"\t\" 0 0 1", "func \"\\\" 0 0 1", "func \"\\'\" 0 0 1", "func \"\\$\" 0 0 1", "func \"\r\" 0 0 1", "func \"f\" 0\t0 1", "unit 1", "Func \"f\" 0 0 1", third} {
		fails(t, first+"\n"+s+"\n"+third+end, 2, api.ErrForm)
		fails(t, first+"\n"+s, 2, api.ErrEnd)
	}
	for _, s := range []string{"", " ", "Do", "Do 0", "Do 0 0", "Do 0 0 1", "Do 0 0 1 ", "Do 0 0 1 \"\" ", "Do 0 0 1 \"\" x", "Do 0 0 1 \"\"\"\"", "Do 0 0  1 \"\"", "Do  0 0 1 \"\"", " Do 0 0 1 \"\"", "Do 0 0 1  \"\"", "Do 0 0 1 ''", "Do 0 0 1 x", "Do 0 0 1 \"", "do 0 0 1 \"\"", "PDo 0 0 1 \"\"", "Dot 0 0 1 \"\"", "D 0 0 1 \"\"", "160 0 0 1 \"\"", "Expr 0 0 1 \"\"", "\"Do\" 0 0 1 \"\"", "Do x 0 1 \"\"", "Do 0 x 1 \"\"", "Do 0 0 x \"\"", "Do -0 0 1 \"\"", "Do 0 00 1 \"\"", "Do 0 0 01 \"\"", "Do 0 0 -1 \"\"", "Do 0 0 1048577 \"\"", "Do 0 0 9007199254740992 \"\"", "Do 9007199254740993 0 1 \"\"", "Do -9007199254740993 0 1 \"\"", "Do 0 9007199254740993 1 \"\"", "Do 0 -99999999999999999999 1 \"\"", "Do 0x0 0 1 \"\"", "Do 0 0 1 \"\\x41\"", "Do 0 0 1 \"\\x0A\"", "Do 0 0 1 \"\x01\"", "Do 0 0 1 \"\\`\"", "Do 0 0 1 \"a\" \"b\"", "\tDo 0 0 1 \"\"", "Do 0 0 1\t\"\"", "Do 0 0 1 \"\"\r", "Do  0 1 \"\"", "Do 0  1 \"\"", second, first, "Do 0 0 1 \"\" 0", "  0 0 1 \"\"", " 0 0 1 \"\""} {
		fails(t, first+"\n"+second+"\n"+s+end, 3, api.ErrForm)
		fails(t, first+"\n"+second+"\n"+s, 3, api.ErrEnd)
	}
	// The first line that is wrong counts, and what is missing ahead of the form of what is there.
	fails(t, "unit 2\n"+second+"\n"+third+end+"x\n", 5, api.ErrForm)
	fails(t, "unit 2\n"+second+"\n"+third+end, 5, api.ErrEnd)
	fails(t, "unit 2\n"+second+"\n"+third+end+"func", 5, api.ErrEnd)
	fails(t, "unit 1\nfunc x\nfunc", 2, api.ErrForm)
	fails(t, "unit 1\nfunc \"\" 0 0 0\nBlock 0 0 1048576 \"\"\nNone 0 0 0 \"\"\n", 5, api.ErrEnd)
	fails(t, "unit 1\nfunc \"\" 0 0 0\nBlock 0 0 2 \"\"\nNone 0 0 0 \"\"\nnone\n", 5, api.ErrForm)
}

func TestReadNotWellFormed(t *testing.T) { // P11.3: an error without a line
	for _, s := range []string{
		"unit 1\nfunc \"\" 4 0 0\nNone 0 0 0 \"\"\n", "unit 1\nfunc \"\" 256 0 0\nNone 0 0 0 \"\"\n", "unit 1\nfunc \"\" -9007199254740992 0 9007199254740992\nNone 0 0 0 \"\"\n", "unit 1\nfunc \"\" 0 -1 0\nNone 0 0 0 \"\"\n",
		"unit 1\nfunc \"\" 0 0 0\nUndef 0 0 0 \"\"\n", "unit 1\nfunc \"\" 0 0 0\nNone 1 0 0 \"\"\n", "unit 1\nfunc \"\" 0 0 0\nNone 0 -1 0 \"\"\n", "unit 1\nfunc \"\" 0 0 0\nNone 0 0 0 \" \"\n", "unit 1\nfunc \"\" 0 0 0\nNone 0 0 1 \"\"\nNone 0 0 0 \"\"\n",
		"unit 1\nfunc \"\" 0 0 0\nDo 0 0 1 \"\"\nPut 0 0 0 \"\"\n", "unit 1\nfunc \"\" 0 0 0\nDo 0 0 1 \"\"\nLocal 0 0 0 \"\"\n", "unit 2\nfunc \"\" 0 0 0\nNone 0 0 0 \"\"\nfunc \"\" 0 0 0\nBreak 0 0 0 \"\"\n",
	} {
		fails(t, s, 0, api.ErrArg)
		fails(t, s+" ", strings.Count(s, "\n")+1, api.ErrForm)
	}
}

func TestReadLongStrings(t *testing.T) { // P11.3
	long := strings.Repeat("a", api.MaxText)
	raw := strings.Repeat("\xff", api.MaxText)
	unit := func(name, text string) string {
		return "unit 1\nfunc " + literal.Quote(name) + " 0 0 0\nDo 0 0 1 \"\"\nText 0 0 0 " + literal.Quote(text) + "\n"
	}
	for _, x := range [][2]string{{long, ""}, {"", long}, {long, raw}, {raw, long}} {
		body := api.Node{Op: api.PDo, Kids: []api.Node{{Op: api.PText, S: x[1]}}}
		reads(t, unit(x[0], x[1]), api.Unit{Funcs: []api.Func{{Name: x[0], Body: body}}})
	}
	fails(t, unit(long+"a", ""), 2, api.ErrForm)
	fails(t, unit(raw+"\xff", ""), 2, api.ErrForm)
	fails(t, unit("", long+"a"), 4, api.ErrForm)
}

func TestReadLongSource(t *testing.T) { // P11.3
	var b strings.Builder
	b.WriteString("unit 1\nfunc \"\" 0 0 0\nBlock 0 0 17 \"\"\n")
	for i := range 17 {
		size := 62000
		if i == 16 {
			size = 1<<20 - b.Len() - len("Do 0 0 1 \"\"\nText 0 0 0 \"\"\n")
		}
		b.WriteString("Do 0 0 1 \"\"\nText 0 0 0 \"" + strings.Repeat("a", size) + "\"\n")
	}
	s := b.String()
	if len(s) != 1<<20 {
		t.Fatal(len(s))
	}
	u, line, e := Read(s)
	if got, f := Text(u); e != api.OK || line != 0 || f != api.OK || got != s {
		t.Errorf("%d in line %d, %d", e, line, f)
	}
	fails(t, s+"\n", 0, api.ErrLong)
	fails(t, s[:1<<20-1], 37, api.ErrEnd)
	fails(t, strings.Repeat("x", 1<<20), 1, api.ErrEnd)
	fails(t, strings.Repeat("x", 1<<20+1), 0, api.ErrLong)
	fails(t, strings.Repeat("\n", 1<<20), 1, api.ErrForm)
	fails(t, strings.Repeat("\n", 1<<20+1), 0, api.ErrLong)
}

func TestReadDeep(t *testing.T) { // P11.3
	const head, block, none = "unit 1\nfunc \"\" 0 0 0\n", "Block 0 0 1 \"\"\n", "None 0 0 0 \"\"\n"
	reads(t, head+strings.Repeat(block, 2047)+none, api.Unit{Funcs: []api.Func{{Body: nested(api.PBlock, 2048, api.Node{Op: api.PNone})}}})
	deep := head + strings.Repeat(block, 2048)
	fails(t, deep+none, 2051, api.ErrDeep)
	fails(t, deep, 2051, api.ErrEnd)
	fails(t, deep+"None", 2051, api.ErrEnd)
	fails(t, deep+"x\n", 2051, api.ErrForm)
	fails(t, deep+"None 0 0 1048577 \"\"\n", 2051, api.ErrForm)
	fails(t, deep+block, 2051, api.ErrDeep)
	fails(t, deep+strings.Repeat(block, 3000)+none, 2051, api.ErrDeep)
	// Nodes beside each other aren't deep, and a unit that is too deep is told ahead of one that isn't well-formed.
	wide := strings.Repeat(none, 3000)
	reads(t, head+"Block 0 0 3000 \"\"\n"+wide, api.Unit{Funcs: []api.Func{{Body: api.Node{Op: api.PBlock, Kids: func() []api.Node {
		l := make([]api.Node, 3000)
		for i := range l {
			l[i].Op = api.PNone
		}
		return l
	}()}}}})
	fails(t, "unit 1\nfunc \"\" 4 0 0\n"+strings.Repeat("Undef 1 1 1 \"x\"\n", 2050), 2051, api.ErrDeep)
}
