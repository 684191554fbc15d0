package scope

import (
	"math"
	"pantomime/api"
)

// program is what is known of a program while its tree is gone through and afterwards.
type program struct {
	scopes     []*scope
	references []reference
	functions  int // how many there are beside the program itself
}

// scope is a scope with what its references have to know.
type scope struct {
	api.Scope
	index  int
	outer  *scope
	places map[string]int // by name, where its binding stands in Names
	alive  []span         // for each binding
	held   bool           // whether a binding of it is captured, so that it has a context
}

// span is the references, by their places in preorder, that surely come when a binding has its value, if they belong to the function of its scope: those from begin to end, without the latter.
type span struct{ begin, end int }

// reference is an occurrence of a variable; bind is the place of its binding in its owner, which is nil for a property of the global object.
type reference struct {
	api.Use
	from, owner *scope
	bind        int
	fn          int  // the function to which it belongs
	declares    bool // whether it is one of the names by which something is declared
}

// open opens a scope inside another one, nil for the program.
func (p *program) open(s api.Scope, outer *scope) *scope {
	if outer != nil {
		s.Up = outer.index
	}
	made := &scope{Scope: s, index: len(p.scopes), outer: outer, places: map[string]int{}}
	p.scopes = append(p.scopes, made)
	return made
}

// add declares a name. What is declared again stays what it is, unless it becomes a function.
func (s *scope) add(name string, kind int) {
	if i, known := s.places[name]; known {
		if kind == api.BFunc {
			s.Names[i].Kind = kind
		}
		return
	}
	s.places[name] = len(s.Names)
	s.Names = append(s.Names, api.Bind{Name: name, Kind: kind})
	s.alive = append(s.alive, span{0, math.MaxInt})
}

// begin tells that the bindings from the known ones on have their values from a reference on.
func (s *scope) begin(known, reference int) {
	for i := known; i < len(s.alive); i++ {
		s.alive[i].begin = reference
	}
}

// end tells that the bindings from the known ones on may lack their values again from a reference on.
func (s *scope) end(known, reference int) {
	for i := known; i < len(s.alive); i++ {
		s.alive[i].end = reference
	}
}

// size returns the number of bindings in all scopes together.
func (p *program) size() int {
	count := 0
	for _, s := range p.scopes {
		count += len(s.Names)
	}
	return count
}

// resolve finds the binding of each reference, and by that the bindings that are captured.
func (p *program) resolve() {
	for i := range p.references {
		r := &p.references[i]
		r.owner, r.bind = r.from.find(r.Name)
		if r.owner != nil && r.owner.Func != r.fn {
			r.owner.held = true
			r.owner.Names[r.bind].Held = true
		}
	}
}

// find returns the innermost scope, from s on outwards, that has a binding of a name, and the place of the binding.
func (s *scope) find(name string) (owner *scope, bind int) {
	for ; s != nil; s = s.outer {
		if i, ok := s.places[name]; ok {
			return s, i
		}
	}
	return nil, 0
}

// number gives the bindings their slots.
func (p *program) number() {
	next := locals{}
	for _, s := range p.scopes {
		for i, slot := range next.slots(s.Scope) {
			s.Names[i].Slot = slot
		}
	}
}

// located returns a reference, one of some number in preorder, with the location of its variable.
func (r reference) located(number int) api.Use {
	u := r.Use
	if r.owner == nil {
		u.Where = api.AtGlobal
		return u
	}
	b := r.owner.Names[r.bind]
	u.Kind, u.Slot = b.Kind, b.Slot
	u.Check = (b.Kind == api.BLet || b.Kind == api.BConst) && !r.declares && !r.isLate(number)
	if b.Held {
		u.Where = api.AtHeld
		u.Hops = r.hops()
	}
	return u
}

// isLate reports whether a reference, one of some number in preorder, surely comes when its variable has its value.
func (r reference) isLate(number int) bool {
	alive := r.owner.alive[r.bind]
	return r.fn == r.owner.Func && alive.begin <= number && number < alive.end
}

// hops returns the number of contexts between a reference and the scope of its binding.
func (r reference) hops() int {
	count := 0
	for s := r.from; s != r.owner; s = s.outer {
		if s.held {
			count++
		}
	}
	return count
}
