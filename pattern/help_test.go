package pattern

import (
	"pantomime/api"
	"pantomime/tree"
	"regexp"
	"strconv"
	"strings"
	"testing"
)

var (
	wordForm = regexp.MustCompile(`[()]|[^() ]+`)
	nodeForm = regexp.MustCompile(`^(\w+)(?:#(-?\d+))?(?:!(-?\d+))?(?::(.*))?$`)
)

// op returns the AST kind of a name, and the number itself of any other kind.
func op(t *testing.T, word string) int {
	t.Helper()
	for k := range 100 {
		if tree.Name(k) == word {
			return k
		}
	}
	k, err := strconv.Atoi(word)
	if err != nil {
		t.Fatalf("no kind: %s", word)
	}
	return k
}

// grown reads a tree from a form such as ArrPat(Name:a Dot#1:k(This)): N behind #, M behind !, S behind : and the children in parentheses. At of the nodes is 1, 2, 3 and so on, from the left.
func grown(t *testing.T, s string) api.Node {
	t.Helper()
	words := wordForm.FindAllString(s, -1)
	at := 0
	n, rest := node(t, words, &at)
	if len(rest) > 0 {
		t.Fatalf("%s: left over %v", s, rest)
	}
	return n
}

func node(t *testing.T, words []string, at *int) (n api.Node, rest []string) {
	t.Helper()
	fields := nodeForm.FindStringSubmatch(words[0])
	*at++
	n.Op, n.At, n.S = op(t, fields[1]), *at, fields[4]
	n.N, _ = strconv.Atoi(fields[2])
	n.M, _ = strconv.Atoi(fields[3])
	rest = words[1:]
	if len(rest) == 0 || rest[0] != "(" {
		return n, rest
	}
	for rest = rest[1:]; rest[0] != ")"; {
		var k api.Node
		k, rest = node(t, rest, at)
		n.Kids = append(n.Kids, k)
	}
	return n, rest[1:]
}

// shown writes a tree in the form that grown reads, with At behind @.
func shown(n api.Node) string {
	s := tree.Name(n.Op)
	if s == "" {
		s = strconv.Itoa(n.Op)
	}
	s += "@" + strconv.Itoa(n.At)
	if n.N != 0 {
		s += "#" + strconv.Itoa(n.N)
	}
	if n.M != 0 {
		s += "!" + strconv.Itoa(n.M)
	}
	if n.S != "" {
		s += ":" + n.S
	}
	if len(n.Kids) == 0 {
		return s
	}
	var kids []string
	for _, k := range n.Kids {
		kids = append(kids, shown(k))
	}
	return s + "(" + strings.Join(kids, " ") + ")"
}

// kinds are the names of the kinds of steps, in the order of their numbers.
var kinds = []string{"0", "need", "member", "others", "open", "take", "skip", "remain", "close", "default", "assign", "key", "enter"}

// told writes steps, every field of them: kind Reg<From, then 'S', the node and the keys where they aren't zero.
func told(l []Step) string {
	var lines []string
	for _, s := range l {
		line := kinds[s.Kind] + " " + strconv.Itoa(s.Reg) + "<" + strconv.Itoa(s.From)
		if s.S != "" {
			line += " '" + s.S + "'"
		}
		if s.Node.Op != 0 || s.Node.At != 0 {
			line += " " + shown(s.Node)
		}
		if len(s.Keys) > 0 {
			var keys []string
			for _, k := range s.Keys {
				keys = append(keys, strconv.Itoa(k))
			}
			line += " [" + strings.Join(keys, " ") + "]"
		}
		lines = append(lines, line)
	}
	return strings.Join(lines, "; ")
}

// answer is all that Steps answers.
func answer(p api.Node) string {
	l, regs, e := Steps(p)
	return strconv.Itoa(int(e)) + "/" + strconv.Itoa(regs) + " " + told(l)
}

// nested puts a tree into count nodes of a form, the last child of which it becomes.
func nested(count int, form, inner string) string {
	return strings.Repeat(form, count) + inner + strings.Repeat(")", count)
}

// spoil changes every field of every node of n where it stands.
func spoil(n *api.Node) {
	n.Op, n.At, n.N, n.M, n.S = n.Op+1, n.At+1, n.N+1, n.M+1, n.S+"!"
	for i := range n.Kids {
		spoil(&n.Kids[i])
	}
}

// chance is a row of numbers that is the same at each run of the tests.
type chance uint32

func (c *chance) below(n int) int {
	*c = *c*1664525 + 1013904223
	return int(*c>>8) % n
}

func (c *chance) one(l ...string) string { return l[c.below(len(l))] }

// pattern grows a pattern, in the form that grown reads.
func (c *chance) pattern(depth int) string {
	if depth == 0 || c.below(4) == 0 {
		return c.one("Name:a", "Name:b", "Dot:k(Name:o)", "Index(Name:o Num)", "ArrPat", "ObjPat", "Index#1(Name:o ArrPat)")
	}
	if c.below(2) == 0 {
		return c.array(depth)
	}
	return c.object(depth)
}

// element grows what may have a default.
func (c *chance) element(depth int) string {
	if c.below(3) == 0 {
		return "Default(" + c.pattern(depth) + " " + c.value() + ")"
	}
	return c.pattern(depth)
}

func (c *chance) value() string {
	return c.one("Num#7", "Name:v", "Array(Name:v)", "Func(Params Block)")
}

func (c *chance) array(depth int) string {
	var l []string
	for range c.below(4) {
		l = append(l, c.one("Hole", c.element(depth-1), c.element(depth-1)))
	}
	return c.with("ArrPat", l, depth)
}

func (c *chance) object(depth int) string {
	var l []string
	for range c.below(4) {
		l = append(l, c.one("PatProp(Text:k ", "PatProp(Text ", "PatProp(Num#3 ", "PatProp!1("+c.value()+" ", "PatProp!1(Text:k ")+c.element(depth-1)+")")
	}
	return c.with("ObjPat", l, depth)
}

// with puts children into a node, and one more that gathers the rest at times.
func (c *chance) with(form string, kids []string, depth int) string {
	if c.below(3) == 0 {
		kids = append(kids, "Rest("+c.pattern(depth-1)+")")
	}
	if len(kids) == 0 {
		return form
	}
	return form + "(" + strings.Join(kids, " ") + ")"
}

// anyNode grows a node of random fields, most of them parts of patterns where they can't stand.
func (c *chance) anyNode(depth int) api.Node {
	ops := []int{api.NText, api.NName, api.NArray, api.NHole, api.NDot, api.NArrPat, api.NObjPat, api.NPatProp, api.NDefault, api.NRest, api.NParams, 0}
	n := api.Node{Op: ops[c.below(len(ops))], At: c.below(9) - 1, N: c.below(4) - 1, M: c.below(4) - 1, S: c.one("", "a")}
	for range c.below(4) * min(1, depth) {
		n.Kids = append(n.Kids, c.anyNode(depth-1))
	}
	return n
}

// altered changes one node of n at random.
func (c *chance) altered(n *api.Node) {
	for len(n.Kids) > 0 && c.below(3) > 0 {
		n = &n.Kids[c.below(len(n.Kids))]
	}
	switch c.below(4) {
	case 0:
		*n = c.anyNode(1)
	case 1:
		n.M = c.below(4) - 1
	case 2:
		n.Kids = append(n.Kids, c.anyNode(1))
	case 3:
		n.Kids = n.Kids[:c.below(len(n.Kids)+1)]
	}
}
