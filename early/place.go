package early

import "pantomime/api"

// function is the position of a function, or of the program: what holds for all nodes of which it is the function.
type function struct {
	root   *api.Node
	strict bool
	begun  int            // how many of its regions have begun
	vars   map[string]int // by name, the greatest number of a region in which a var declaration of it was found
}

// region is the position of a part of a function to which declarations belong. Regions are numbered from 1 as they begin, and so those inside one that has not ended yet are all that follow it.
type region struct {
	*function
	outer   *region // the next one around it in the same function
	number  int
	lexical map[string]bool
}

// place is the position of a node.
type place struct {
	*region
	up    *place
	node  *api.Node
	index int // among the children of up
}

// whole returns the place of a program.
func whole(n *api.Node) *place { return &place{region: enter(n, false), node: n} }

// enter begins a function, and with it the region that it is itself.
func enter(root *api.Node, strict bool) *region {
	f := &function{root: root, strict: strict || Strict(*root), vars: map[string]int{}}
	return f.begin(nil)
}

// begin begins a region inside another one.
func (f *function) begin(outer *region) *region {
	f.begun++
	return &region{function: f, outer: outer, number: f.begun, lexical: map[string]bool{}}
}

// check returns the first error at or below p, parents before children.
func (p *place) check() (at int, e api.Errno) {
	if e := p.fault(); e != api.OK {
		return p.node.At, e
	}
	inner := p.inside()
	for i := range p.node.Kids {
		kid := &place{region: inner, up: p, node: &p.node.Kids[i], index: i}
		if at, e := kid.check(); e != api.OK {
			return at, e
		}
	}
	return 0, api.OK
}

// inside returns the region in which the children of p stand.
func (p *place) inside() *region {
	switch p.node.Op {
	case api.NFunc:
		return enter(p.node, p.strict)
	case api.NBlock:
		if p.up.node.Op == api.NFunc || p.up.node.Op == api.NCatch {
			return p.region
		}
		return p.begin(p.region)
	case api.NSwitch, api.NFor, api.NForIn, api.NForOf, api.NCatch:
		return p.begin(p.region)
	}
	return p.region
}

// around returns the innermost node around p, in the same function, for which a test holds, or nil.
func (p *place) around(holds func(*api.Node) bool) *api.Node {
	for q := p.up; q != nil && q.node.Op != api.NFunc; q = q.up {
		if holds(q.node) {
			return q.node
		}
	}
	return nil
}

// inHead reports whether p stands in the head of its function.
func (p *place) inHead() bool {
	return p.around(func(n *api.Node) bool { return n.Op == api.NParams }) != nil
}

// inLoop reports whether p stands inside a loop.
func (p *place) inLoop() bool { return p.around(isLoop) != nil }

// inCase reports whether p stands inside a clause of a switch.
func (p *place) inCase() bool {
	return p.around(func(n *api.Node) bool { return n.Op == api.NCase }) != nil
}

// label returns the label of some name that encloses p, or nil.
func (p *place) label(name string) *api.Node {
	return p.around(func(n *api.Node) bool { return n.Op == api.NLabel && n.S == name })
}

func isLoop(n *api.Node) bool {
	switch n.Op {
	case api.NFor, api.NForIn, api.NForOf, api.NWhile, api.NDo:
		return true
	}
	return false
}
