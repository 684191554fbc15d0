package ir

import (
	"pantomime/api"
	"regexp"
	"strconv"
	"strings"
	"testing"
)

// row is what the document asks of the nodes of some kinds: their children, by a letter each, and their fields.
type row struct {
	names  string
	kids   string // e an expression, s a statement, p a Put, c a Copy, w a Spread
	n, m   [2]int
	s      string // a regular expression, or text for any string
	locals bool   // whether N is the number of a local
	held   bool   // whether N and M are a context and a slot of it
}

// rows is the table of the document.
func rows() []row {
	const identifier = `[a-zA-Z_$][a-zA-Z_$0-9]*`
	return []row{
		{names: "Undef Null NaN Hole This Fresh None"},
		{names: "Bool", n: [2]int{0, 1}},
		{names: "Num", n: [2]int{-1 << 53, 1 << 53}},
		{names: "Text", s: "text"},
		{names: "Local", locals: true},
		{names: "SetLocal", kids: "e", locals: true},
		{names: "Held", held: true},
		{names: "SetHeld", kids: "e", held: true},
		{names: "Check Const", kids: "e", s: identifier},
		{names: "Global", s: identifier},
		{names: "SetGlobal", kids: "e", s: identifier, n: [2]int{0, 1}},
		{names: "TypeOf Key ToText ToNum Iter Next Keys Need", kids: "e"},
		{names: "Arg", n: [2]int{-1, 1024}},
		{names: "Rest", n: [2]int{0, 1024}},
		{names: "Func", n: [2]int{1, 1 << 60}},
		{names: "Object", kids: "[pc]*"},
		{names: "Array", kids: "[ew]*"},
		{names: "Get In", kids: "ee"},
		{names: "Set", kids: "eee", n: [2]int{0, 1}},
		{names: "Delete", kids: "ee", n: [2]int{0, 1}},
		{names: "Call", kids: "e[ew]*", m: [2]int{0, 1}},
		{names: "New", kids: "e[ew]*"},
		{names: "CallOn", kids: "ee[ew]*"},
		{names: "Unary", kids: "e", s: `[-+!~]|void`},
		{names: "Binary", kids: "ee", s: `[|^&<>+*/%-]|[=!]==?|[<>]=|<<|>>|instanceof|in`},
		{names: "Logic", kids: "ee", s: `&&|\|\||\?\?`},
		{names: "Cond", kids: "eee"},
		{names: "Seq", kids: "[es]*e"},
		{names: "Yield Delegate", kids: "e"},
		{names: "Close", kids: "e", n: [2]int{0, 1}},
		{names: "Others", kids: "e+"},
		{names: "Do Return Throw", kids: "e"},
		{names: "Block", kids: "s*"},
		{names: "If", kids: "ess"},
		{names: "Loop", kids: "ess", n: [2]int{0, 4096}, m: [2]int{0, 4096}},
		{names: "Label", kids: "s", n: [2]int{0, 4096}},
		{names: "Break Again", n: [2]int{0, 4096}},
		{names: "Try", kids: "sss", locals: true},
		{names: "Scope", kids: "s", n: [2]int{0, 4096}},
		{names: "Put", kids: "ee", n: [2]int{0, 2}},
		{names: "Copy Spread", kids: "e"},
	}
}

// kinds are the names of the kinds, as package api has them.
func kinds() map[string]int {
	return map[string]int{
		"Undef": 100, "Null": 101, "Bool": 102, "Num": 103, "NaN": 104, "Text": 105, "Hole": 106, "Local": 107, "SetLocal": 108, "Held": 109, "SetHeld": 110, "Check": 111, "Const": 112, "Global": 113, "SetGlobal": 114,
		"TypeOf": 115, "This": 116, "Arg": 117, "Rest": 118, "Func": 119, "Object": 120, "Put": 121, "Copy": 122, "Array": 123, "Spread": 124, "Get": 125, "Set": 126, "Delete": 127, "In": 128, "Call": 129, "CallOn": 130,
		"New": 131, "Unary": 132, "Binary": 133, "Logic": 134, "Cond": 135, "Seq": 136, "Yield": 137, "Delegate": 138, "Key": 139, "ToText": 140, "ToNum": 141, "Iter": 142, "Next": 143, "Close": 144, "Keys": 145,
		"Others": 146, "Need": 147, "Do": 160, "Block": 161, "If": 162, "Loop": 163, "Label": 164, "Break": 165, "Again": 166, "Return": 167, "Throw": 168, "Try": 169, "Scope": 170, "Fresh": 171, "None": 172,
	}
}

// code is the letter of a kind in the table.
func code(op int) string {
	switch {
	case op == api.PPut:
		return "p"
	case op == api.PCopy:
		return "c"
	case op == api.PSpread:
		return "w"
	case 100 <= op && op <= 147:
		return "e"
	case 160 <= op && op <= 172:
		return "s"
	}
	return "?"
}

// short are nodes that the notation of these tests names by a letter.
func short(word string) string {
	switch word {
	case "e":
		return "(Num 1)"
	case "s":
		return "(None)"
	case "p":
		return "(Put (Text =a) (Undef))"
	case "c":
		return "(Copy (Null))"
	case "w":
		return "(Spread (This))"
	}
	return ""
}

// made reads a node from a notation: its name, N, M, = and S where they are not 0 or empty, and its children, of which a letter of short stands for one.
func made(t *testing.T, s string) api.Node {
	t.Helper()
	words := regexp.MustCompile(`[()]|[^() ]+`).FindAllString(s, -1)
	n, rest := node(t, words)
	if len(rest) > 0 {
		t.Fatalf("%s: left over %v", s, rest)
	}
	return n
}

func node(t *testing.T, words []string) (n api.Node, rest []string) {
	t.Helper()
	if words[0] != "(" {
		return made(t, short(words[0])), words[1:]
	}
	op, known := kinds()[words[1]]
	if !known {
		t.Fatalf("no kind: %s", words[1])
	}
	n.Op = op
	numbers := []*int{&n.N, &n.M}
	for rest = words[2:]; rest[0] != ")"; {
		if value, err := strconv.Atoi(rest[0]); err == nil {
			*numbers[0], numbers, rest = value, numbers[1:], rest[1:]
			continue
		}
		if text, found := strings.CutPrefix(rest[0], "="); found {
			n.S, rest = text, rest[1:]
			continue
		}
		var k api.Node
		k, rest = node(t, rest)
		n.Kids = append(n.Kids, k)
	}
	return n, rest[1:]
}

// unitOf is a unit of functions with bodies in the notation of made. Each has 3 locals, and all but the first are generators.
func unitOf(t *testing.T, bodies ...string) api.Unit {
	t.Helper()
	var u api.Unit
	for i, s := range bodies {
		f := api.Func{Locals: 3, Kind: api.FGen, Body: made(t, s)}
		if i == 0 {
			f.Kind = 0
		}
		u.Funcs = append(u.Funcs, f)
	}
	return u
}

// copied returns a copy of a node that shares no memory with it.
func copied(n api.Node) api.Node {
	var kids []api.Node
	for _, k := range n.Kids {
		kids = append(kids, copied(k))
	}
	n.Kids = kids
	return n
}

func copiedUnit(u api.Unit) api.Unit {
	var made api.Unit
	for _, f := range u.Funcs {
		f.Body = copied(f.Body)
		made.Funcs = append(made.Funcs, f)
	}
	return made
}

// places are pointers to all nodes of a tree in preorder.
func places(n *api.Node) []*api.Node {
	l := []*api.Node{n}
	for i := range n.Kids {
		l = append(l, places(&n.Kids[i])...)
	}
	return l
}

// nested is a leaf in so many levels of nodes of a kind, all levels counted.
func nested(op, levels int, leaf api.Node) api.Node {
	for range levels - 1 {
		leaf = api.Node{Op: op, Kids: []api.Node{leaf}}
	}
	return leaf
}

// chance is a row of numbers that is the same at each run of the tests.
type chance uint32

func (c *chance) below(n int) int {
	*c = *c*1664525 + 1013904223
	return int(*c>>8) % n
}

func (c *chance) one(l ...string) string { return l[c.below(len(l))] }
