package ir

import (
	"pantomime/api"
	"regexp"
	"slices"
	"strings"
	"testing"
)

// judging tells whether units are well-formed by the table of the document and its definitions, one after the other.
type judging struct {
	rows     map[int]row
	patterns map[string]*regexp.Regexp
}

func newJudging() *judging {
	j := &judging{map[int]row{}, map[string]*regexp.Regexp{}}
	for _, r := range rows() {
		for _, name := range strings.Fields(r.names) {
			j.rows[kinds()[name]] = r
		}
		for _, s := range []string{r.kids, r.s, "^ee[ew]*$"} {
			j.patterns[s] = regexp.MustCompile("^(?:" + s + ")$")
		}
	}
	return j
}

// unit reports whether u is well-formed. Its functions are taken to be few, and its lists short.
func (j *judging) unit(u api.Unit) bool {
	if len(u.Funcs) == 0 || u.Funcs[0].Kind&api.FGen != 0 {
		return false
	}
	for _, f := range u.Funcs {
		if f.Kind < 0 || f.Kind > 255 || f.Length < 0 || f.Length > 1024 || f.Locals < 0 || f.Locals > 4096 || code(f.Body.Op) != "s" {
			return false
		}
		for _, n := range places(&f.Body) {
			if !j.alone(*n, f, len(u.Funcs)) {
				return false
			}
		}
		if !jumps(f.Body, nil, nil) {
			return false
		}
	}
	return contexts(u)
}

// alone holds a node and the kinds of its children against the table.
func (j *judging) alone(n api.Node, f api.Func, functions int) bool {
	r, known := j.rows[n.Op]
	kids := ""
	for _, k := range n.Kids {
		kids += code(k.Op)
	}
	pattern := r.kids
	if n.Op == api.PCall && n.M == 1 {
		pattern = "^ee[ew]*$"
	}
	switch {
	case !known || !j.patterns[pattern].MatchString(kids) || r.s != "text" && !j.patterns[r.s].MatchString(n.S):
		return false
	case n.Op == api.PYield || n.Op == api.PDelegate:
		return f.Kind&api.FGen != 0 && n.N == 0 && n.M == 0
	case r.held:
		return true // looked at with the contexts
	case r.locals:
		return 0 <= n.N && n.N < f.Locals && n.M == 0
	case n.Op == api.PFunc:
		return 0 < n.N && n.N < functions && n.M == 0
	}
	return r.n[0] <= n.N && n.N <= r.n[1] && r.m[0] <= n.M && n.M <= r.m[1]
}

// jumps reports whether each Break and Again at or below n has a target.
func jumps(n api.Node, breaks, agains []int) bool {
	switch n.Op {
	case api.PBreak:
		return slices.Contains(breaks, n.N)
	case api.PAgain:
		return slices.Contains(agains, n.N)
	case api.PLabel:
		breaks = append(slices.Clip(breaks), n.N)
	}
	for i, k := range n.Kids {
		b, a := breaks, agains
		if n.Op == api.PLoop && i == 1 {
			b, a = append(slices.Clip(b), n.N), append(slices.Clip(a), n.M)
		}
		if !jumps(k, b, a) {
			return false
		}
	}
	return true
}

// contexts reports whether all nodes of a unit find the contexts that they ask for.
func contexts(u api.Unit) bool {
	around := map[int][]int{} // by function that was reached
	var order []int
	ok := true
	var look func(n api.Node, outer []int, own int)
	look = func(n api.Node, outer []int, own int) {
		switch n.Op {
		case api.PScope:
			outer = append([]int{n.N}, outer...)
			own++
		case api.PFresh:
			ok = ok && own > 0
		case api.PHeld, api.PSetHeld:
			ok = ok && 0 <= n.N && n.N < len(outer) && 0 <= n.M && n.M < outer[n.N]
		case api.PFunc:
			if known, reached := around[n.N]; reached {
				ok = ok && slices.Equal(known, outer)
			} else {
				around[n.N] = outer
				order = append(order, n.N)
			}
		}
		for _, k := range n.Kids {
			look(k, outer, own)
		}
	}
	for i := range u.Funcs {
		if _, reached := around[i]; !reached {
			around[i] = nil
			order = append(order, i)
		}
		for ; len(order) > 0; order = order[1:] {
			look(u.Funcs[order[0]].Body, around[order[0]], 0)
		}
	}
	return ok
}

// grower grows units most of which are well-formed.
type grower struct {
	chance
	depth, functions int
	fn               api.Func
	contexts         []int
	around           map[int][]int // by function that has a Func already, the contexts there
	breaks, agains   []int
}

func (g *grower) of(name string, n, m int, s string, kids string) api.Node {
	made := api.Node{Op: kinds()[name], N: n, M: m, S: s, At: g.below(3)}
	for _, letter := range kids {
		switch letter {
		case 'e':
			made.Kids = append(made.Kids, g.expression())
		case 's':
			made.Kids = append(made.Kids, g.statement())
		case 'p':
			made.Kids = append(made.Kids, g.of("Put", g.below(3), 0, "", "ee"))
		case 'c':
			made.Kids = append(made.Kids, g.of("Copy", 0, 0, "", "e"))
		case 'w':
			made.Kids = append(made.Kids, g.of("Spread", 0, 0, "", "e"))
		}
	}
	return made
}

func (g *grower) leaf() api.Node {
	switch g.below(8) {
	case 0:
		return g.of("Num", []int{0, 5, -1, 1 << 53, -1 << 53}[g.below(5)], 0, "", "")
	case 1:
		return g.of("Text", 0, 0, g.one("", "a", " ", "\"\\\n", "\x00\xff"), "")
	case 2:
		return g.of("Local", g.below(g.fn.Locals), 0, "", "")
	case 3, 4:
		if n := g.below(len(g.contexts) + 1); n < len(g.contexts) && g.contexts[n] > 0 {
			return g.of("Held", n, g.below(g.contexts[n]), "", "")
		}
	case 5:
		if n := g.below(g.functions); n > 0 && g.creates(n) {
			return g.of("Func", n, 0, "", "")
		}
	case 6:
		return g.of("Arg", g.below(3)-1, 0, "", "")
	}
	return g.of(g.one("Undef", "Null", "NaN", "Hole", "This", "Rest", "Bool"), 0, 0, "", "")
}

// creates reports whether a function can be created with the contexts that there are.
func (g *grower) creates(n int) bool {
	known, reached := g.around[n]
	if !reached {
		g.around[n] = g.contexts
	}
	return !reached || slices.Equal(known, g.contexts)
}

func (g *grower) expression() api.Node {
	if g.depth > 4 || g.below(3) == 0 {
		return g.leaf()
	}
	g.depth++
	defer func() { g.depth-- }()
	bit := g.below(2)
	switch g.below(14) {
	case 0:
		return g.of(g.one("TypeOf", "Key", "ToText", "ToNum", "Iter", "Next", "Keys", "Need", "Others"), 0, 0, "", "e")
	case 1:
		return g.of("SetLocal", g.below(g.fn.Locals), 0, "", "e")
	case 2:
		return g.of(g.one("Check", "Const", "SetGlobal"), 0, 0, g.one("a", "$", "if", "_9"), "e")
	case 3:
		return g.of("Object", 0, 0, "", g.one("", "p", "c", "pcp"))
	case 4:
		return g.of("Array", 0, 0, "", g.one("", "e", "we", "ww"))
	case 5:
		return g.of(g.one("Get", "In"), 0, 0, "", "ee")
	case 6:
		made := g.of(g.one("Set", "Delete"), bit, 0, "", "ee")
		if made.Op == api.PSet {
			made.Kids = append(made.Kids, g.expression())
		}
		return made
	case 7:
		return g.of("Close", bit, 0, "", "e")
	case 8:
		return g.of("Call", 0, bit, "", strings.Repeat("e", bit)+g.one("e", "ew", "ee"))
	case 9:
		return g.of(g.one("New", "CallOn"), 0, 0, "", g.one("ee", "eew", "eee"))
	case 10:
		return g.of("Unary", 0, 0, g.one("-", "+", "!", "~", "void"), "e")
	case 11:
		return g.of("Binary", 0, 0, g.one("+", "in", "===", "<<", "instanceof"), "ee")
	case 12:
		return g.of("Logic", 0, 0, g.one("&&", "||", "??"), "ee")
	}
	if g.fn.Kind&api.FGen != 0 && bit == 0 {
		return g.of(g.one("Yield", "Delegate"), 0, 0, "", "e")
	}
	return g.of(g.one("Cond", "Seq"), 0, 0, "", "eee")
}

func (g *grower) statement() api.Node {
	if g.depth > 5 || g.below(6) == 0 {
		return g.jump()
	}
	g.depth++
	defer func() { g.depth-- }()
	switch g.below(8) {
	case 0:
		return g.of("Block", 0, 0, "", g.one("", "s", "sss"))
	case 1:
		return g.of("If", 0, 0, "", "ess")
	case 2:
		return g.loop()
	case 3:
		n := g.below(4)
		g.breaks = append(g.breaks, n)
		made := g.of("Label", n, 0, "", "s")
		g.breaks = g.breaks[:len(g.breaks)-1]
		return made
	case 4:
		return g.of("Try", g.below(g.fn.Locals), 0, "", "sss")
	case 5, 6:
		n := g.below(3)
		outer := g.contexts
		g.contexts = append([]int{n}, outer...)
		made := g.of("Scope", n, 0, "", "s")
		g.contexts = outer
		return made
	}
	return g.of(g.one("Do", "Return", "Throw"), 0, 0, "", "e")
}

func (g *grower) loop() api.Node {
	n, m := g.below(4), g.below(4)
	made := g.of("Loop", n, m, "", "e")
	g.breaks, g.agains = append(g.breaks, n), append(g.agains, m)
	body := g.statement()
	g.breaks, g.agains = g.breaks[:len(g.breaks)-1], g.agains[:len(g.agains)-1]
	made.Kids = append(made.Kids, body, g.statement())
	return made
}

func (g *grower) jump() api.Node {
	switch {
	case len(g.breaks) > 0 && g.below(2) == 0:
		return g.of("Break", g.breaks[g.below(len(g.breaks))], 0, "", "")
	case len(g.agains) > 0 && g.below(2) == 0:
		return g.of("Again", g.agains[g.below(len(g.agains))], 0, "", "")
	case len(g.contexts) > 0 && g.below(3) == 0:
		return g.of("Fresh", 0, 0, "", "")
	}
	return g.of("None", 0, 0, "", "")
}

func (g *grower) unit() api.Unit {
	var u api.Unit
	g.functions, g.around = 1+g.below(4), map[int][]int{0: nil}
	for i := range g.functions {
		g.fn = api.Func{Name: g.one("", "f", "a b"), Kind: []int{0, 1, 64, 255}[g.below(4)], Length: g.below(3), Locals: 1 + g.below(3)}
		if i == 0 {
			g.fn.Kind &^= api.FGen
		}
		g.contexts = g.around[i]
		g.around[i] = g.contexts
		g.fn.Body = g.of("Block", 0, 0, "", g.one("s", "ss", "sss"))
		u.Funcs = append(u.Funcs, g.fn)
	}
	return u
}

// change alters a unit somewhere.
func (g *grower) change(u *api.Unit, other api.Unit) {
	f := &u.Funcs[g.below(len(u.Funcs))]
	l := places(&f.Body)
	k := l[g.below(len(l))]
	strange := copied(other.Funcs[0].Body)
	parts := places(&strange)
	part := *parts[g.below(len(parts))]
	switch g.below(12) {
	case 0:
		k.N = []int{-1, 0, 1, 2, 3, 4, 1024, 1025, 4097}[g.below(9)]
	case 1:
		k.M = g.below(4) - 1
	case 2:
		k.S = g.one("", "a", "+", "&&", "!", "1")
	case 3:
		k.Op = 95 + g.below(85)
	case 4:
		if len(k.Kids) > 0 {
			i := g.below(len(k.Kids))
			k.Kids = slices.Delete(k.Kids, i, i+1)
		}
	case 5:
		k.Kids = slices.Insert(k.Kids, g.below(len(k.Kids)+1), part)
	case 6:
		if len(k.Kids) > 1 {
			k.Kids[0], k.Kids[1] = k.Kids[1], k.Kids[0]
		}
	case 7:
		*[]*int{&f.Kind, &f.Length, &f.Locals}[g.below(3)] = []int{-1, 0, 1, 2, 4, 255, 256, 1025, 4097}[g.below(9)]
	case 8:
		u.Funcs[0], u.Funcs[len(u.Funcs)-1] = u.Funcs[len(u.Funcs)-1], u.Funcs[0]
	default:
		*k = part
	}
}

func TestRightByTheTable(t *testing.T) { // P11.1, P11.4
	j, g := newJudging(), &grower{chance: 9}
	good, bad := 0, 0
	last := g.unit()
	for range 6000 {
		u := g.unit()
		for range g.below(4) {
			g.change(&u, last)
		}
		want := j.unit(u)
		if Right(u) != want {
			t.Fatalf("%+v: %v", u, !want)
		}
		s, e := Text(u)
		if !want {
			bad++
			if s != "" || e != api.ErrArg {
				t.Fatalf("%d %s", e, s)
			}
			continue
		}
		good++
		last = copiedUnit(u)
		if e != api.OK {
			t.Fatal(e)
		}
		reads(t, s, u)
	}
	if good < 1500 || bad < 1500 {
		t.Errorf("%d well-formed, %d not", good, bad)
	}
}

// TestReadIsExact alters texts by a byte or a word: what is still read is written so again.
func TestReadIsExact(t *testing.T) { // P11.3, P11.4
	g := &grower{chance: 21}
	ended := map[api.Errno]int{}
	for range 3000 {
		s, e := Text(g.unit())
		if e != api.OK || len(s) > 3000 {
			continue
		}
		for range 20 {
			at, to := g.below(len(s)), g.below(4)
			words := g.one(" ", "\n", "0", "1", "-", "\"", "a", "\\", "None", "x", "")
			changed := s[:at] + words + s[min(len(s), at+to):]
			u, line, e := Read(changed)
			ended[e]++
			lines := strings.Count(changed, "\n") + 1
			switch {
			case e == api.OK && line == 0:
				if again, f := Text(u); again != changed || f != api.OK {
					t.Fatalf("%d: read %q\nwrote %q", f, changed, again)
				}
			case e == api.ErrArg && line == 0 && len(u.Funcs) == 0:
			case e == api.ErrEnd && line == lines && len(u.Funcs) == 0:
			case e == api.ErrForm && 0 < line && line <= lines && len(u.Funcs) == 0:
			default:
				t.Fatalf("%q: %d in line %d", changed, e, line)
			}
		}
	}
	if ended[api.OK] < 200 || ended[api.ErrArg] < 200 || ended[api.ErrEnd] < 100 || ended[api.ErrForm] < 5000 {
		t.Errorf("%v", ended)
	}
}
