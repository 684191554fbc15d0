package labels

import (
	"pantomime/api"
	"pantomime/tree"
	"slices"
	"testing"
)

// placed is a node of a function's body with the nodes around it, the innermost last.
type placed struct {
	api.Node
	around []placed
	number int // of the mark that it is
}

// body lists the nodes of a function's body in preorder.
func bodyOf(fn api.Node) []placed {
	var l []placed
	var gather func(n api.Node, around []placed)
	next := 0
	gather = func(n api.Node, around []placed) {
		p := placed{n, around, next}
		switch {
		case loops[n.Op]:
			next += 2
		case n.Op == api.NSwitch || n.Op == api.NLabel:
			next++
		}
		l = append(l, p)
		for _, k := range n.Kids {
			if k.Op != api.NFunc {
				gather(k, append(slices.Clone(around), p))
			}
		}
	}
	gather(fn, nil)
	return l
}

var loops = map[int]bool{api.NFor: true, api.NForIn: true, api.NForOf: true, api.NWhile: true, api.NDo: true}

// find returns the innermost node around p for which a test holds, or none.
func (p placed) find(holds func(placed) bool) []placed {
	for i := len(p.around) - 1; i >= 0; i-- {
		if holds(p.around[i]) {
			return p.around[i:]
		}
	}
	return nil
}

// to returns the number to which a jump leads, by the chapter's terms, or its error.
func (p placed) to() (int, api.Errno) {
	isContinue := p.Op == api.NContinue
	if p.S == "" {
		l := p.find(func(x placed) bool { return loops[x.Op] || x.Op == api.NSwitch && !isContinue })
		switch {
		case l == nil:
			return 0, api.ErrBreak
		case isContinue:
			return l[0].number + 1, api.OK
		}
		return l[0].number, api.OK
	}
	l := p.find(func(x placed) bool { return x.Op == api.NLabel && x.S == p.S })
	switch {
	case l == nil:
		return 0, api.ErrLabel
	case !isContinue:
		return l[0].number, api.OK
	}
	for len(l) > 0 && l[0].Op == api.NLabel {
		l = l[1:]
	}
	if len(l) == 0 || !loops[l[0].Op] {
		return 0, api.ErrBreak
	}
	return l[0].number + 1, api.OK
}

// searched is what Of has to answer for a well-formed function, in the form of answer.
func searched(fn api.Node) string {
	var marks []Mark
	var jumps []Jump
	for _, p := range bodyOf(fn) {
		e := api.OK
		switch {
		case loops[p.Op]:
			marks = append(marks, Mark{p.At, p.number, p.number + 1})
		case p.Op == api.NSwitch || p.Op == api.NLabel:
			marks = append(marks, Mark{p.At, p.number, -1})
			if p.Op == api.NLabel && p.find(func(x placed) bool { return x.Op == api.NLabel && x.S == p.S }) != nil {
				e = api.ErrLabel
			}
		case p.Op == api.NBreak || p.Op == api.NContinue:
			var to int
			to, e = p.to()
			jumps = append(jumps, Jump{p.At, to})
		}
		if e != api.OK {
			return "error " + map[api.Errno]string{api.ErrLabel: "31@", api.ErrBreak: "32@"}[e] + decimal(p.At)
		}
	}
	return told(marks, jumps)
}

func decimal(n int) string {
	if n < 10 {
		return string(rune('0' + n))
	}
	return decimal(n/10) + decimal(n%10)
}

func TestGrownPrograms(t *testing.T) { // P13.1, P13.3
	c := chance(13)
	right, wrong := 0, 0
	for i := range 4000 {
		s := c.statements(6)
		if i%2 == 0 {
			s = c.loose(6)
		}
		for _, n := range tree.Walk(parsed(t, "function f() { "+s+" }")) {
			if n.Op != api.NProgram && n.Op != api.NFunc {
				continue
			}
			if got, want := answer(n), searched(n); got != want {
				t.Fatalf("%s: %s, want %s", s, got, want)
			}
			marks, jumps, _, e := Of(n)
			if e != api.OK {
				wrong++
			} else if len(jumps) > 0 {
				right++
			}
			if fault := astray(marks, jumps); fault {
				t.Fatalf("%s: %v %v", s, marks, jumps)
			}
		}
	}
	if right < 500 || wrong < 500 {
		t.Errorf("%d right, %d wrong", right, wrong)
	}
}

// astray reports whether a jump leads to no number of a mark ahead of it.
func astray(marks []Mark, jumps []Jump) bool {
	for _, j := range jumps {
		leads := func(m Mark) bool { return m.At < j.At && j.To >= 0 && (j.To == m.Break || j.To == m.Again) }
		if !slices.ContainsFunc(marks, leads) {
			return true
		}
	}
	return false
}
