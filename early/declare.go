package early

import (
	"pantomime/api"
	"pantomime/cover"
)

// declare takes down what the node at p declares; it returns false if that conflicts with an earlier declaration.
func (p *place) declare() bool {
	n := p.node
	if n.Op == api.NFunc && n.N&api.FDecl != 0 {
		if p.isBodyStatement() {
			return p.declareVar(n.S)
		}
		return p.declareLexical(n.S)
	}
	if n.Op != api.NName {
		return true
	}
	d := p.declaration()
	switch {
	case d == nil:
		return true
	case d.node.Op == api.NParams:
		return p.declareParameter(n.S)
	case d.node.Op == api.NDecl && d.up.node.N == 0:
		return p.declareVar(n.S)
	}
	return p.declareLexical(n.S)
}

// isBodyStatement reports whether p is a statement of the program or of the body of a function, in no other statement.
func (p *place) isBodyStatement() bool {
	up := p.up
	return up.node.Op == api.NProgram || up.node.Op == api.NBlock && up.up.node.Op == api.NFunc
}

// declaration returns the place of the NDecl, NParams or NCatch of which the node at p is a target, or nil.
func (p *place) declaration() *place {
	for q := p; q.up != nil; q = q.up {
		up, first := q.up, q.index == 0
		switch op := up.node.Op; {
		case op == api.NParams, first && (op == api.NDecl || op == api.NCatch):
			return up
		case op == api.NArrPat, op == api.NObjPat:
		case first && (op == api.NDefault || op == api.NRest):
		case !first && op == api.NPatProp:
		default:
			return nil
		}
	}
	return nil
}

// isMember reports whether the node at p is a member of an object, which no declaration can bind.
func (p *place) isMember() bool { return p.node.Op == api.NDot || p.node.Op == api.NIndex }

// declareLexical takes down a name for region r alone.
func (r *region) declareLexical(name string) bool {
	if r.lexical[name] || r.vars[name] >= r.number {
		return false
	}
	r.lexical[name] = true
	return true
}

// declareVar takes down a name for region r and those around it.
func (r *region) declareVar(name string) bool {
	for q := r; q != nil; q = q.outer {
		if q.lexical[name] {
			return false
		}
	}
	r.vars[name] = max(r.vars[name], r.number)
	return true
}

// declareParameter takes down a name for the function of region r, whose parameters come ahead of all else that it declares.
func (r *region) declareParameter(name string) bool {
	if r.vars[name] > 0 && r.hasDistinct() {
		return false
	}
	return r.declareVar(name)
}

// hasDistinct reports whether no two parameters of f may have the same name.
func (f *function) hasDistinct() bool {
	return f.strict || f.root.N&(api.FArrow|api.FMethod) != 0 || !cover.Simple(f.root.Kids[0])
}
