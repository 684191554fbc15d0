package scope

import (
	"pantomime/api"
	"pantomime/cover"
	"pantomime/early"
)

// none is the kind of what a name declares that declares nothing.
const none = -1

// place is where a node stands.
type place struct {
	scope *scope // the innermost one around the node
	fn    *scope // that of its function
	kind  int    // of the binding that the node declares as a target
}

// visited goes through the tree of a program, whose nodes come in preorder, and returns the scopes and references found.
func visited(n *api.Node) *program {
	p := &program{}
	s := p.open(api.Scope{Up: -1, Kind: api.SProgram, At: n.At}, nil)
	at := place{s, s, none}
	p.children(n, at, at)
	return p
}

// visit goes through the tree of a node.
func (p *program) visit(n *api.Node, at place) {
	switch {
	case n.Op == api.NName:
		at.declare(n.S)
		p.refer(n, at)
	case n.Op == api.NProp && n.N == api.PropShort:
		p.refer(&n.Kids[0], at)
	case n.Op == api.NFunc:
		p.function(n, at)
	default:
		p.children(n, at, p.inside(n, at))
	}
}

// declare adds the binding that a name at this place declares.
func (at place) declare(name string) {
	switch {
	case at.kind == none:
	case at.kind != api.BVar:
		at.scope.add(name, at.kind)
	case at.fn.Kind != api.SProgram: // the var names of the program become properties of the global object
		at.fn.add(name, at.kind)
	}
}

// refer takes down a reference to the name that n holds.
func (p *program) refer(n *api.Node, at place) {
	use := api.Use{At: n.At, Scope: at.scope.index, Name: n.S}
	p.references = append(p.references, reference{Use: use, from: at.scope, fn: at.fn.Func, declares: at.kind != none})
}

// function goes through a function, whose name stands outside of it.
func (p *program) function(n *api.Node, at place) {
	p.functions++
	s := api.Scope{Kind: api.SFunc, Func: p.functions, At: n.At}
	outer := at.scope
	switch {
	case n.N&api.FDecl == 0 && n.S != "":
		self := s
		self.Kind = api.SSelf
		outer = p.open(self, outer)
		outer.add(n.S, api.BSelf)
	case n.N&api.FDecl != 0 && outer.Kind != api.SProgram: // the functions of the program become properties of the global object
		outer.add(n.S, api.BFunc)
	}
	own := p.open(s, outer)
	inner := place{own, own, none}
	p.visit(&n.Kids[0], inner)
	if body := &n.Kids[1]; body.Op == api.NBlock {
		p.children(body, inner, inner)
	} else {
		p.visit(body, inner)
	}
}

// inside returns the place of the children of a node, in the scope that it opens, if it opens one.
func (p *program) inside(n *api.Node, at place) place {
	if kind := opened(n); kind != none {
		at.scope = p.open(api.Scope{Func: at.fn.Func, Kind: kind, At: n.At}, at.scope)
	}
	return at
}

// opened returns the kind of the scope that a node other than a program or a function opens.
func opened(n *api.Node) int {
	switch n.Op {
	case api.NBlock, api.NSwitch:
		if len(early.Declares(*n)) > 0 {
			return api.SBlock
		}
	case api.NFor, api.NForIn, api.NForOf:
		// The head declares for the loop what it would declare for a block.
		if len(early.Declares(api.Node{Op: api.NBlock, Kids: n.Kids[:1]})) > 0 {
			return api.SLoop
		}
	case api.NCatch:
		if len(cover.Names(n.Kids[0])) > 0 {
			return api.SCatch
		}
	}
	return none
}

// children goes through the children of a node at a place, which stand at the inner place.
func (p *program) children(n *api.Node, at, inner place) {
	known := len(inner.scope.Names)
	for i := range n.Kids {
		kid := inner
		if i == 0 && n.Op == api.NSwitch {
			kid = at
		}
		kid.kind = declared(n, i, at.kind)
		p.visit(&n.Kids[i], kid)
		if isEarly(n, i) {
			inner.scope.begin(known, len(p.references))
		}
	}
	if n.Op == api.NCase {
		inner.scope.end(known, len(p.references))
	}
}

// isEarly reports whether what n declares has no value yet while child i of it is evaluated.
func isEarly(n *api.Node, i int) bool {
	switch n.Op {
	case api.NDecl:
		return true
	case api.NForIn, api.NForOf:
		return i < 2
	}
	return false
}

// declared returns the kind of the bindings that child i of a node declares as a target, if the node declares those of some kind.
func declared(n *api.Node, i, kind int) int {
	switch n.Op {
	case api.NVar:
		return variable(n.N)
	case api.NParams:
		return api.BParam
	case api.NArrPat, api.NObjPat:
		return kind
	}
	switch {
	case i == 0 && n.Op == api.NCatch:
		return api.BCatch
	case i == 0 && (n.Op == api.NDecl || n.Op == api.NDefault || n.Op == api.NRest), i == 1 && n.Op == api.NPatProp:
		return kind
	}
	return none
}

// variable returns the kind of the bindings that a statement of some N declares.
func variable(n int) int {
	switch n {
	case 1:
		return api.BLet
	case 2:
		return api.BConst
	}
	return api.BVar
}
