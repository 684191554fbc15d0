package ir

import "pantomime/api"

// unit is the functions of a unit while they are gone through.
type unit struct {
	funcs    []api.Func
	reached  []bool
	contexts []*context // by function, those outside of it
	queue    []int      // the functions that were reached and not gone through yet
}

// context is an environment, and by outer those around it. It is nil where there is none.
type context struct {
	slots  int
	outer  *context
	number int // of contexts from here outwards
}

// inner returns the contexts c with one more inside them.
func (c *context) inner(slots int) *context { return &context{slots, c, c.count() + 1} }

func (c *context) count() int {
	if c == nil {
		return 0
	}
	return c.number
}

// at returns the context that is n hops out; there has to be one.
func (c *context) at(n int) *context {
	for range n {
		c = c.outer
	}
	return c
}

// same reports whether two lists of contexts have the same numbers of slots.
func (c *context) same(d *context) bool {
	for c != d {
		if c.count() != d.count() || c.slots != d.slots {
			return false
		}
		c, d = c.outer, d.outer
	}
	return true
}

// label is a label that encloses a node, and by outer those around it.
type label struct {
	number int
	outer  *label
}

func (l *label) has(number int) bool {
	for ; l != nil; l = l.outer {
		if l.number == number {
			return true
		}
	}
	return false
}

// place is where a node stands.
type place struct {
	*unit
	fn       *api.Func
	level    int
	contexts *context
	scoped   bool // whether the innermost context is one of the function itself
	breaks   *label
	agains   *label
}

// analyze reports whether the bodies of all functions are well-formed.
func analyze(l []api.Func) bool {
	u := &unit{funcs: l, reached: make([]bool, len(l)), contexts: make([]*context, len(l))}
	for i := range l {
		u.reaches(i, nil)
		for len(u.queue) > 0 {
			next := u.queue[0]
			u.queue = u.queue[1:]
			if !u.body(next) {
				return false
			}
		}
	}
	return true
}

// reaches takes down the contexts outside of a function where it is reached first. It returns false if there were others.
func (u *unit) reaches(number int, outer *context) bool {
	if u.reached[number] {
		return u.contexts[number].same(outer)
	}
	u.reached[number] = true
	u.contexts[number] = outer
	u.queue = append(u.queue, number)
	return true
}

// body reports whether the body of a function is well-formed.
func (u *unit) body(number int) bool {
	f := &u.funcs[number]
	return class(f.Body.Op) == statement && place{unit: u, fn: f, level: 1, contexts: u.contexts[number]}.right(&f.Body)
}

// right reports whether a node is well-formed, parents before children.
func (p place) right(n *api.Node) bool {
	if p.level > maxLevels || !p.numbers(n) || !text(n) || !children(n) || !p.fits(n) {
		return false
	}
	for i := range n.Kids {
		if !p.inside(n, i).right(&n.Kids[i]) {
			return false
		}
	}
	return true
}

// fits reports whether n can stand at a place of this function.
func (p place) fits(n *api.Node) bool {
	switch n.Op {
	case api.PYield, api.PDelegate:
		return p.fn.Kind&api.FGen != 0
	case api.PFunc:
		return p.reaches(n.N, p.contexts)
	case api.PBreak:
		return p.breaks.has(n.N)
	case api.PAgain:
		return p.agains.has(n.N)
	case api.PFresh:
		return p.scoped
	}
	return true
}

// inside returns the place of child i of n.
func (p place) inside(n *api.Node, i int) place {
	p.level++
	switch {
	case n.Op == api.PLabel:
		p.breaks = &label{n.N, p.breaks}
	case n.Op == api.PLoop && i == 1:
		p.breaks = &label{n.N, p.breaks}
		p.agains = &label{n.M, p.agains}
	case n.Op == api.PScope:
		p.contexts = p.contexts.inner(n.N)
		p.scoped = true
	}
	return p
}
