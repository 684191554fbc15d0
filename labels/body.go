package labels

import "pantomime/api"

// none stands for a number that a mark doesn't have.
const none = -1

// body is what is known of a function's body while its nodes are visited.
type body struct {
	marks  []Mark
	jumps  []Jump
	around []target // the innermost last
	next   int      // the number that the next mark takes
}

// target is a statement to which a jump inside of it can lead: its numbers, and its label if it is an NLabel.
type target struct {
	op, ends, again int
	label           string
}

// visit goes through n and the nodes below it that belong to the same function, and tells the first that is invalid.
func (b *body) visit(n api.Node) (at int, e api.Errno) {
	count := len(b.around)
	if e := b.enter(n); e != api.OK {
		return n.At, e
	}
	for _, k := range n.Kids {
		if k.Op == api.NFunc {
			continue
		}
		if at, e := b.visit(k); e != api.OK {
			return at, e
		}
	}
	b.around = b.around[:count]
	return 0, api.OK
}

// enter takes note of n, if it is a mark or a jump.
func (b *body) enter(n api.Node) api.Errno {
	switch {
	case isLoop(n.Op):
		b.mark(n, b.next+1)
		b.open(n, b.next+1)
		b.next += 2
	case n.Op == api.NSwitch:
		b.mark(n, none)
		b.open(n, none)
		b.next++
	case n.Op == api.NLabel:
		if _, ok := b.labelled(n.S); ok {
			return api.ErrLabel
		}
		b.mark(n, none)
		b.open(n, again(n, b.next))
		b.next++
	case n.Op == api.NBreak || n.Op == api.NContinue:
		return b.jump(n)
	}
	return api.OK
}

func (b *body) mark(n api.Node, again int) {
	b.marks = append(b.marks, Mark{At: n.At, Break: b.next, Again: again})
}

// open makes n a target of the jumps inside of it.
func (b *body) open(n api.Node, again int) {
	b.around = append(b.around, target{op: n.Op, ends: b.next, again: again, label: n.S})
}

// again returns the number by which a label's loop goes on, if it labels one: the label has a number, and the labels and the loop behind it have those that follow.
func again(n api.Node, number int) int {
	for n.Op == api.NLabel {
		n = n.Kids[0]
		number++
	}
	if !isLoop(n.Op) {
		return none
	}
	return number + 1
}

func (b *body) jump(n api.Node) api.Errno {
	t, e := b.aim(n)
	if e != api.OK {
		return e
	}
	to := t.ends
	if n.Op == api.NContinue {
		to = t.again
	}
	if to == none {
		return api.ErrBreak
	}
	b.jumps = append(b.jumps, Jump{At: n.At, To: to})
	return api.OK
}

// aim returns the target of a break or continue.
func (b *body) aim(n api.Node) (target, api.Errno) {
	if n.S != "" {
		t, ok := b.labelled(n.S)
		if !ok {
			return target{}, api.ErrLabel
		}
		return t, api.OK
	}
	t, ok := b.innermost(func(t target) bool {
		return isLoop(t.op) || t.op == api.NSwitch && n.Op == api.NBreak
	})
	if !ok {
		return target{}, api.ErrBreak
	}
	return t, api.OK
}

// labelled returns the innermost label with a name around the node that is visited.
func (b *body) labelled(name string) (target, bool) {
	return b.innermost(func(t target) bool { return t.op == api.NLabel && t.label == name })
}

// innermost returns the innermost target around the node that is visited for which a test holds.
func (b *body) innermost(holds func(target) bool) (target, bool) {
	for i := len(b.around) - 1; i >= 0; i-- {
		if holds(b.around[i]) {
			return b.around[i], true
		}
	}
	return target{}, false
}

func isLoop(op int) bool {
	switch op {
	case api.NFor, api.NForIn, api.NForOf, api.NWhile, api.NDo:
		return true
	}
	return false
}
