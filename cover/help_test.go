package cover

import (
	"pantomime/api"
	"pantomime/tree"
	"regexp"
	"strconv"
	"strings"
	"testing"
)

var (
	wordForm = regexp.MustCompile(`[()]|[^() ]+`)
	nodeForm = regexp.MustCompile(`^(\w+)(?:#(-?\d+))?(?:!(-?\d+))?(?::(.*))?$`)
)

// op returns the AST kind of a name, and the number itself of any other kind.
func op(t *testing.T, word string) int {
	t.Helper()
	for k := range 100 {
		if tree.Name(k) == word {
			return k
		}
	}
	k, err := strconv.Atoi(word)
	if err != nil {
		t.Fatalf("no kind: %s", word)
	}
	return k
}

// grown reads a tree from a form such as Array(Name:a Dot#1:k(This)): N behind #, M behind !, S behind : and the children in parentheses. At of the nodes is 1, 2, 3 and so on, from the left.
func grown(t *testing.T, s string) api.Node {
	t.Helper()
	words := wordForm.FindAllString(s, -1)
	at := 0
	n, rest := node(t, words, &at)
	if len(rest) > 0 {
		t.Fatalf("%s: left over %v", s, rest)
	}
	return n
}

func node(t *testing.T, words []string, at *int) (n api.Node, rest []string) {
	t.Helper()
	fields := nodeForm.FindStringSubmatch(words[0])
	*at++
	n.Op, n.At, n.S = op(t, fields[1]), *at, fields[4]
	n.N, _ = strconv.Atoi(fields[2])
	n.M, _ = strconv.Atoi(fields[3])
	rest = words[1:]
	if len(rest) == 0 || rest[0] != "(" {
		return n, rest
	}
	for rest = rest[1:]; rest[0] != ")"; {
		var k api.Node
		k, rest = node(t, rest, at)
		n.Kids = append(n.Kids, k)
	}
	return n, rest[1:]
}

// shown writes a tree in the form that grown reads, with At behind @.
func shown(n api.Node) string {
	s := tree.Name(n.Op)
	if s == "" {
		s = strconv.Itoa(n.Op)
	}
	s += "@" + strconv.Itoa(n.At)
	if n.N != 0 {
		s += "#" + strconv.Itoa(n.N)
	}
	if n.M != 0 {
		s += "!" + strconv.Itoa(n.M)
	}
	if n.S != "" {
		s += ":" + n.S
	}
	if len(n.Kids) == 0 {
		return s
	}
	var kids []string
	for _, k := range n.Kids {
		kids = append(kids, shown(k))
	}
	return s + "(" + strings.Join(kids, " ") + ")"
}

// nested puts a tree into count nodes of a form with one child.
func nested(count int, form, inner string) string {
	return strings.Repeat(form+"(", count) + inner + strings.Repeat(")", count)
}

// outcome is what a conversion answers, with its error ahead.
func outcome(n api.Node, e api.Errno) string { return strconv.Itoa(int(e)) + " " + shown(n) }

// refused is what a conversion has to answer that fails.
func refused(e api.Errno) string { return outcome(api.Node{}, e) }

// spoil changes every field of every node of n where it stands.
func spoil(n *api.Node) {
	n.Op, n.At, n.N, n.M, n.S = n.Op+1, n.At+1, n.N+1, n.M+1, n.S+"!"
	for i := range n.Kids {
		spoil(&n.Kids[i])
	}
}

// chance is a row of numbers that is the same at each run of the tests.
type chance uint32

func (c *chance) below(n int) int {
	*c = *c*1664525 + 1013904223
	return int(*c>>8) % n
}

func (c *chance) one(l ...string) string { return l[c.below(len(l))] }

// value is an expression that no conversion changes.
func (c *chance) value() string { return c.one("Num#7", "Name:v", "Array(Name:v)", "Call(Name:f)") }

// expression grows an expression, in the form that grown reads, most often one that can be a pattern.
func (c *chance) expression(depth int) string {
	if depth == 0 || c.below(4) == 0 {
		return c.one("Name:a", "Name:b", "Name:a", "Dot:k(Name:o)", "Index(Name:o Num)", "Array", "Object", "ArrPat(Name:p Hole)", "ObjPat", "Num")
	}
	if c.below(2) == 0 {
		return c.array(depth)
	}
	return c.object(depth)
}

// element grows what may have a default.
func (c *chance) element(depth int) string {
	if c.below(3) == 0 {
		return "Assign:=(" + c.one("Name:d", "Dot:k(Name:o)", "ObjPat(PatProp(Text:k Name:p))") + " " + c.value() + ")"
	}
	return c.expression(depth)
}

func (c *chance) array(depth int) string {
	var l []string
	for range c.below(4) {
		l = append(l, c.one("Hole", c.element(depth-1), c.element(depth-1)))
	}
	if c.below(4) == 0 {
		l = append(l, "Spread("+c.expression(depth-1)+")")
	}
	return with("Array", l)
}

func (c *chance) object(depth int) string {
	var l []string
	for range c.below(4) {
		l = append(l, c.one("Prop(Text:k "+c.element(depth-1)+")", "Prop!1("+c.value()+" "+c.element(depth-1)+")", "Prop(Num#3 "+c.element(depth-1)+")", "Prop#3(Text:s)", "Prop#3(Text:s "+c.value()+")"))
	}
	if c.below(4) == 0 {
		l = append(l, "Prop#4("+c.one("Name:r", "Dot:k(Name:o)")+")")
	}
	return with("Object", l)
}

// with puts children into a node.
func with(form string, kids []string) string {
	if len(kids) == 0 {
		return form
	}
	return form + "(" + strings.Join(kids, " ") + ")"
}

// anyNode grows a node of random fields, hardly ever a well-formed one.
func (c *chance) anyNode(depth int) api.Node {
	ops := []int{api.NParams, api.NEmpty, api.NText, api.NName, api.NArray, api.NObject, api.NProp, api.NHole, api.NSpread, api.NAssign, api.NSeq, api.NDot, api.NIndex, api.NArrPat, api.NObjPat, api.NPatProp, api.NDefault, api.NRest, api.NProgram, 0, -1, api.PThis}
	n := api.Node{Op: ops[c.below(len(ops))], At: c.below(9) - 1, N: []int{0, 0, 0, 1, 3, 4, -1}[c.below(7)], M: c.below(3) - 1, S: c.one("", "=", "a", "+=")}
	for range c.below(4) * min(1, depth) {
		n.Kids = append(n.Kids, c.anyNode(depth-1))
	}
	return n
}
