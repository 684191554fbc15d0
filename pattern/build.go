package pattern

import (
	"pantomime/api"
	"pantomime/tree"
	"strconv"
)

// builder gathers steps and counts the registers that they use. Its methods that take a node report whether the node is allowed where it stands.
type builder struct {
	steps []Step
	regs  int
}

func (b *builder) add(s Step) { b.steps = append(b.steps, s) }

// set adds a step that writes a new register, and returns that register.
func (b *builder) set(s Step) int {
	s.Reg = b.regs
	b.regs++
	b.add(s)
	return s.Reg
}

// value destructures register r by t.
func (b *builder) value(r int, t api.Node) bool {
	switch t.Op {
	case api.NName, api.NDot, api.NIndex:
		b.add(Step{Kind: Assign, From: r, Node: tree.Copy(t)})
		return true
	case api.NDefault:
		return b.defaulted(r, t)
	case api.NObjPat:
		return b.object(r, t)
	case api.NArrPat:
		return b.array(r, t)
	}
	return false
}

func (b *builder) defaulted(r int, t api.Node) bool {
	if len(t.Kids) != 2 {
		return false
	}
	b.add(Step{Kind: Default, Reg: r, Node: tree.Copy(t.Kids[1])})
	return b.value(r, t.Kids[0])
}

func (b *builder) object(r int, t api.Node) bool {
	b.add(Step{Kind: Need, From: r})
	last := len(t.Kids) - 1
	gathers := last >= 0 && t.Kids[last].Op == api.NRest
	var keys []int
	for i := range len(t.Kids) {
		k := t.Kids[i]
		if i == last && gathers {
			return b.rest(Step{Kind: Others, From: r, Keys: keys}, k)
		}
		if k.Op != api.NPatProp || len(k.Kids) != 2 {
			return false
		}
		member, ok := b.member(k, gathers)
		if !ok {
			return false
		}
		keys = append(keys, member.Keys...)
		member.From = r
		if !b.value(b.set(member), k.Kids[1]) {
			return false
		}
	}
	return true
}

// member returns the step for the property that p names, behind a step for the key where it is computed or still needed to gather the others.
func (b *builder) member(p api.Node, kept bool) (Step, bool) {
	if p.M == 1 {
		key := b.set(Step{Kind: Key, Node: tree.Copy(p.Kids[0])})
		return Step{Kind: Member, Keys: []int{key}}, true
	}
	s, ok := name(p.Kids[0])
	if !ok {
		return Step{}, false
	}
	if kept {
		key := b.set(Step{Kind: Key, S: s})
		return Step{Kind: Member, Keys: []int{key}}, true
	}
	return Step{Kind: Member, S: s}, true
}

// name returns the name of a property for a key that isn't computed.
func name(key api.Node) (string, bool) {
	switch key.Op {
	case api.NText:
		return key.S, true
	case api.NNum:
		return strconv.Itoa(key.N), true
	}
	return "", false
}

func (b *builder) array(r int, t api.Node) bool {
	iterator := b.set(Step{Kind: Open, From: r})
	b.add(Step{Kind: Enter, From: iterator})
	for i := range len(t.Kids) {
		if !b.element(iterator, t.Kids[i], i == len(t.Kids)-1) {
			return false
		}
	}
	b.add(Step{Kind: Close, From: iterator})
	return true
}

// element destructures what an iterator tells next by k; last tells that no sibling follows k.
func (b *builder) element(iterator int, k api.Node, last bool) bool {
	switch k.Op {
	case api.NHole:
		b.add(Step{Kind: Skip, From: iterator})
		return true
	case api.NRest:
		return last && b.rest(Step{Kind: Remain, From: iterator}, k)
	}
	return b.value(b.set(Step{Kind: Take, From: iterator}), k)
}

// rest destructures what s gathers by the child of k.
func (b *builder) rest(s Step, k api.Node) bool {
	return len(k.Kids) == 1 && b.value(b.set(s), k.Kids[0])
}
