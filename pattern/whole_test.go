package pattern

import (
	"pantomime/api"
	"pantomime/read"
	"slices"
	"strconv"
	"testing"
)

// drawn is a step by the chapter's definitions, whose registers have no numbers yet.
type drawn struct {
	Step
	reg, from *int
	keys      []*int
}

// drawing lists the steps of a pattern by the chapter's definitions, one after the other; wrong tells that one of them doesn't hold.
type drawing struct {
	steps []drawn
	wrong bool
}

func (d *drawing) add(kind int, reg, from *int) *drawn {
	d.steps = append(d.steps, drawn{Step: Step{Kind: kind}, reg: reg, from: from})
	return &d.steps[len(d.steps)-1]
}

func (d *drawing) destructure(r *int, t api.Node) {
	switch {
	case t.Op == api.NName || t.Op == api.NDot || t.Op == api.NIndex:
		d.add(Assign, nil, r).Node = t
	case t.Op == api.NDefault && len(t.Kids) == 2:
		d.add(Default, r, nil).Node = t.Kids[1]
		d.destructure(r, t.Kids[0])
	case t.Op == api.NArrPat:
		it := new(int)
		d.add(Open, it, r)
		d.add(Enter, nil, it)
		for i, k := range t.Kids {
			switch {
			case k.Op == api.NHole:
				d.add(Skip, nil, it)
			case k.Op == api.NRest && len(k.Kids) == 1 && i+1 == len(t.Kids):
				d.gather(Remain, it, k)
			default:
				v := new(int)
				d.add(Take, v, it)
				d.destructure(v, k)
			}
		}
		d.add(Close, nil, it)
	case t.Op == api.NObjPat:
		d.object(r, t)
	default:
		d.wrong = true
	}
}

func (d *drawing) gather(kind int, from *int, k api.Node) *drawn {
	v := new(int)
	i := len(d.steps)
	d.add(kind, v, from)
	d.destructure(v, k.Kids[0])
	return &d.steps[i]
}

func (d *drawing) object(r *int, t api.Node) {
	d.add(Need, nil, r)
	var keys []*int
	rest := slices.IndexFunc(t.Kids, func(k api.Node) bool { return k.Op == api.NRest })
	if rest >= 0 && rest < len(t.Kids)-1 {
		d.wrong = true
		return
	}
	for i, k := range t.Kids {
		switch {
		case i == rest && len(k.Kids) == 1:
			d.gather(Others, r, k).keys = keys
			continue
		case k.Op != api.NPatProp || len(k.Kids) != 2:
			d.wrong = true
			return
		}
		name := k.Kids[0].S
		if k.M != 1 && k.Kids[0].Op == api.NNum {
			name = strconv.Itoa(k.Kids[0].N)
		} else if k.M != 1 && k.Kids[0].Op != api.NText {
			d.wrong = true
			return
		}
		key, value := new(int), new(int)
		switch {
		case k.M == 1:
			d.add(Key, key, nil).Node = k.Kids[0]
		case rest >= 0:
			d.add(Key, key, nil).S = name
		}
		if k.M == 1 || rest >= 0 {
			keys = append(keys, key)
			d.add(Member, value, r).keys = []*int{key}
		} else {
			d.add(Member, value, r).S = name
		}
		d.destructure(value, k.Kids[1])
	}
}

// drawnAnswer is what Steps has to answer for a pattern that isn't too deep, in the form of answer.
func drawnAnswer(p api.Node) string {
	var d drawing
	root := new(int)
	d.destructure(root, p)
	if d.wrong {
		return "24/0 "
	}
	numbers := map[*int]int{root: 0, nil: 0}
	var l []Step
	for _, s := range d.steps {
		if _, ok := numbers[s.reg]; !ok {
			numbers[s.reg] = len(numbers) - 1
		}
		s.Reg, s.From = numbers[s.reg], numbers[s.from]
		for _, k := range s.keys {
			s.Keys = append(s.Keys, numbers[k])
		}
		l = append(l, s.Step)
	}
	return "0/" + strconv.Itoa(len(numbers)-1) + " " + told(l)
}

func TestGrownPatterns(t *testing.T) { // P12.1, P12.2
	c := chance(12)
	refused := 0
	for range 6000 {
		p := grown(t, c.element(5))
		if got, want := answer(p), drawnAnswer(p); got != want || got[0] != '0' {
			t.Fatalf("%s:\n%s, want\n%s", shown(p), got, want)
		}
		for range 2 {
			c.altered(&p)
		}
		got, want := answer(p), drawnAnswer(p)
		if got != want {
			t.Fatalf("%s:\n%s, want\n%s", shown(p), got, want)
		}
		if want[0] == '2' {
			refused++
		}
		n := c.anyNode(3)
		if got, want := answer(n), drawnAnswer(n); got != want {
			t.Fatalf("%s:\n%s, want\n%s", shown(n), got, want)
		}
		if Deep(n) != measured(n) || Deep(p) != measured(p) {
			t.Fatalf("Deep(%s) = %d, Deep(%s) = %d", shown(n), Deep(n), shown(p), Deep(p))
		}
	}
	if refused < 1000 || refused > 5000 {
		t.Errorf("%d refused", refused)
	}
}

// measured is the nesting depth of patterns by the definition.
func measured(n api.Node) int {
	inner := map[int]int{api.NDefault: 0, api.NRest: 0, api.NPatProp: 1}
	if i, ok := inner[n.Op]; ok && i < len(n.Kids) {
		return measured(n.Kids[i])
	}
	if n.Op != api.NArrPat && n.Op != api.NObjPat {
		return 0
	}
	depths := []int{0}
	for _, k := range n.Kids {
		depths = append(depths, measured(k))
	}
	return 1 + slices.Max(depths)
}

// ends lists the targets of a pattern that are names or members, in source order.
func ends(p api.Node) []string {
	var l []string
	switch p.Op {
	case api.NName, api.NDot, api.NIndex:
		return []string{shown(p)}
	case api.NDefault, api.NRest:
		return ends(p.Kids[0])
	case api.NPatProp:
		return ends(p.Kids[1])
	}
	for _, k := range p.Kids {
		l = append(l, ends(k)...)
	}
	return l
}

func TestConsequences(t *testing.T) { // P12.3
	c := chance(123)
	for range 4000 {
		p := grown(t, c.element(5))
		l, regs, e := Steps(p)
		if e != api.OK {
			t.Fatalf("%s: %d", shown(p), e)
		}
		if fault := inconsistent(l, regs); fault != "" {
			t.Fatalf("%s: %s: %s", shown(p), told(l), fault)
		}
		var assigned []string
		for _, s := range l {
			if s.Kind == Assign {
				assigned = append(assigned, shown(s.Node))
			}
		}
		if !slices.Equal(assigned, ends(p)) {
			t.Fatalf("%s: assigned %v", shown(p), assigned)
		}
	}
}

// inconsistent tells what is wrong with the registers or iterators of steps.
func inconsistent(l []Step, regs int) string {
	count := 1
	var open []int
	iterators := map[int]int{}
	for _, s := range l {
		for _, use := range append([]int{s.From}, s.Keys...) {
			if use < 0 || use >= count {
				return "used before it is written"
			}
		}
		switch s.Kind {
		case Member, Others, Open, Take, Remain, Key:
			if s.Reg != count {
				return "not a new register"
			}
			count++
		case Default:
			if s.Reg >= count {
				return "default of what isn't written"
			}
		}
		switch s.Kind {
		case Open:
			iterators[s.Reg] = 1
		case Enter:
			if iterators[s.From] != 1 {
				return "entered twice or before it is open"
			}
			iterators[s.From] = 2
			open = append(open, s.From)
		case Take, Skip, Remain:
			if open[len(open)-1] != s.From {
				return "not the innermost iterator"
			}
		case Close:
			if open[len(open)-1] != s.From || iterators[s.From] != 2 {
				return "closed out of order"
			}
			open = open[:len(open)-1]
			iterators[s.From] = 3
		}
	}
	if len(open) > 0 || count != regs {
		return "iterators left open, or registers left over"
	}
	for _, state := range iterators {
		if state != 3 {
			return "an iterator that isn't closed"
		}
	}
	return ""
}

// TestReadPatterns takes the patterns of source texts, as the layers above do.
func TestReadPatterns(t *testing.T) { // P12.1
	for _, x := range [][2]string{
		{"var [a, , b = 3, ...c] = 1", "0/5 open 1<0; enter 0<1; take 2<1; assign 0<2 Name@5:a; skip 0<1; take 3<1; default 3<0 Num@14#3; assign 0<3 Name@10:b; remain 4<1; assign 0<4 Name@20:c; close 0<1"},
		{"let {a, b: {c = 1}, [d]: e} = 1", "0/6 need 0<0; member 1<0 'a'; assign 0<1 Name@5:a; member 2<0 'b'; need 0<2; member 3<2 'c'; default 3<0 Num@16#1; assign 0<3 Name@12:c; key 4<0 Name@21:d; member 5<0 [4]; assign 0<5 Name@25:e"},
	} {
		n, _, e := read.Program(x[0])
		if e != api.OK {
			t.Fatalf("%s: %d", x[0], e)
		}
		if got := answer(n.Kids[0].Kids[0].Kids[0]); got != x[1] {
			t.Errorf("%s:\n%s, want\n%s", x[0], got, x[1])
		}
	}
}
