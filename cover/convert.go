package cover

import (
	"pantomime/api"
	"slices"
)

// part converts a node, at a depth, to a part of a pattern; last tells that no sibling follows the node.
type part func(n api.Node, depth int, last bool) (api.Node, api.Errno)

// made converts the nodes of l by f, one deeper than depth, and returns head with them as its children.
func made(head api.Node, l []api.Node, depth int, f part) (api.Node, api.Errno) {
	for i, k := range l {
		got, e := f(k, depth+1, i == len(l)-1)
		if e != api.OK {
			return api.Node{}, e
		}
		head.Kids = append(head.Kids, got)
	}
	return head, api.OK
}

// within returns f behind the test of the depth, which comes ahead of every other.
func within(f part) part {
	return func(n api.Node, depth int, last bool) (api.Node, api.Errno) {
		if depth > api.MaxDepth {
			return api.Node{}, api.ErrDeep
		}
		return f(n, depth, last)
	}
}

// only returns the part that keeps a node for which a test holds, however deep it is.
func only(holds func(api.Node) bool) part {
	return func(n api.Node, _ int, _ bool) (api.Node, api.Errno) {
		if !holds(n) {
			return api.Node{}, api.ErrTarget
		}
		return copied(n), api.OK
	}
}

// keep keeps a node, whatever it is and however deep: a hole, a key or the value of a default.
func keep(n api.Node, _ int, _ bool) (api.Node, api.Errno) { return copied(n), api.OK }

// pair returns what converts the first of two nodes by f and the second by g.
func pair(f, g part) part {
	return func(n api.Node, depth int, last bool) (api.Node, api.Errno) {
		if last {
			return g(n, depth, last)
		}
		return f(n, depth, last)
	}
}

// copied returns a copy of n that shares no memory with it.
func copied(n api.Node) api.Node {
	n.Kids = slices.Clone(n.Kids)
	for i, k := range n.Kids {
		n.Kids[i] = copied(k)
	}
	return n
}

// pattern converts an expression that has no default.
func pattern(n api.Node, depth int, _ bool) (api.Node, api.Errno) {
	switch {
	case isPattern(n):
		return copied(n), api.OK
	case n.Op == api.NArray:
		return made(api.Node{Op: api.NArrPat, At: n.At}, n.Kids, depth, item)
	case n.Op == api.NObject:
		return made(api.Node{Op: api.NObjPat, At: n.At}, n.Kids, depth, within(property))
	}
	return api.Node{}, api.ErrTarget
}

// element converts an expression that may be an assignment, which gives a default.
func element(n api.Node, depth int, last bool) (api.Node, api.Errno) {
	if n.Op != api.NAssign {
		return pattern(n, depth, last)
	}
	if n.S != "=" || len(n.Kids) != 2 {
		return api.Node{}, api.ErrTarget
	}
	return made(api.Node{Op: api.NDefault, At: n.At}, n.Kids, depth, pair(within(only(isPattern)), keep))
}

// listed converts an expression of a list, at whose end the rest may be gathered.
func listed(n api.Node, depth int, last bool) (api.Node, api.Errno) {
	if n.Op != api.NSpread {
		return element(n, depth, last)
	}
	if !last || len(n.Kids) != 1 {
		return api.Node{}, api.ErrTarget
	}
	return made(api.Node{Op: api.NRest, At: n.At}, n.Kids, depth, within(pattern))
}

// item converts an element of an array literal.
func item(n api.Node, depth int, last bool) (api.Node, api.Errno) {
	if n.Op == api.NHole {
		return keep(n, depth, last)
	}
	return within(listed)(n, depth, last)
}

// parameter converts a parameter, which binds names alone.
func parameter(n api.Node, depth int, last bool) (api.Node, api.Errno) {
	p, e := within(listed)(n, depth, last)
	if e == api.OK && hasMember(p) {
		return api.Node{}, api.ErrTarget
	}
	return p, e
}

// property converts a property of an object literal.
func property(n api.Node, depth int, last bool) (api.Node, api.Errno) {
	count := len(n.Kids)
	head := api.Node{Op: api.NPatProp, At: n.At, M: n.M}
	switch {
	case n.Op != api.NProp:
		return api.Node{}, api.ErrTarget
	case n.N == api.PropValue && count == 2:
		return made(head, n.Kids, depth, pair(keep, within(element)))
	case n.N == api.PropShort && (count == 1 || count == 2):
		return made(head, written(n.Kids), depth, pair(only(isText), within(element)))
	case n.N == api.PropSpread && count == 1 && last:
		return made(api.Node{Op: api.NRest, At: n.At}, n.Kids, depth, within(only(Target)))
	}
	return api.Node{}, api.ErrTarget
}

// written returns the key and the value that a short property leaves out: the name, or an assignment to it where a default follows.
func written(l []api.Node) []api.Node {
	key := l[0]
	value := api.Node{Op: api.NName, At: key.At, S: key.S}
	if len(l) == 2 {
		value = api.Node{Op: api.NAssign, At: key.At, S: "=", Kids: []api.Node{value, l[1]}}
	}
	return []api.Node{key, value}
}
