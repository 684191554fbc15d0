package scope

import (
	"cmp"
	"pantomime/api"
	"slices"
)

// item is a node of a program with what is around it. The tests search among all items for what the document defines, one definition after the other.
type item struct {
	*api.Node
	up    *item
	index int // among the children of up
	first int // its number in preorder
	last  int // that of the last node below it
	fn    int // the function to which it belongs
	own   int // the function that it is, if it is one
}

// items are the nodes of a program in preorder.
func items(n *api.Node) []*item {
	var l []*item
	functions := 0
	var add func(n *api.Node, up *item, index, fn int)
	add = func(n *api.Node, up *item, index, fn int) {
		k := &item{Node: n, up: up, index: index, first: len(l), fn: fn}
		l = append(l, k)
		if n.Op == api.NFunc {
			functions++
			k.own, fn = functions, functions
		}
		for i := range n.Kids {
			add(&n.Kids[i], k, i, fn)
		}
		k.last = len(l) - 1
	}
	add(n, nil, 0, 0)
	return l
}

func (k *item) isDeclaration() bool { return k.Op == api.NFunc && k.N&api.FDecl != 0 }

// isLoop reports whether k is a loop with a head that may declare.
func (k *item) isLoop() bool {
	return k.Op == api.NFor || k.Op == api.NForIn || k.Op == api.NForOf
}

// root returns the NDecl, NParams or NCatch that k is a target of, or nil.
func (k *item) root() *item {
	for ; k.up != nil; k = k.up {
		first := k.index == 0
		switch op := k.up.Op; {
		case op == api.NParams, first && (op == api.NDecl || op == api.NCatch):
			return k.up
		case op == api.NArrPat, op == api.NObjPat, first && (op == api.NDefault || op == api.NRest), !first && op == api.NPatProp:
			continue
		}
		return nil
	}
	return nil
}

// declares returns the node that opens the scope in which k declares a binding, the kind of the scope, and that of the binding; nil if it declares none.
func (k *item) declares() (opener *item, kind, bind int) {
	if k.isDeclaration() {
		return k.list(api.BFunc)
	}
	root := k.root()
	switch {
	case k.Op != api.NName || root == nil:
		return nil, 0, 0
	case root.Op == api.NParams:
		return root.up, api.SFunc, api.BParam
	case root.Op == api.NCatch:
		return root, api.SCatch, api.BCatch
	case root.up.N == 0:
		for f := root; f != nil; f = f.up {
			if f.own == root.fn && root.fn > 0 {
				return f, api.SFunc, api.BVar
			}
		}
		return nil, 0, 0
	case root.up.index == 0 && root.up.up.isLoop():
		return root.up.up, api.SLoop, []int{0, api.BLet, api.BConst}[root.up.N]
	}
	return root.up.list([]int{0, api.BLet, api.BConst}[root.up.N])
}

// list returns what declares returns for a statement in the list of which something of a kind is declared.
func (k *item) list(bind int) (*item, int, int) {
	switch up := k.up; {
	case up.Op == api.NProgram && bind == api.BFunc:
		return nil, 0, 0
	case up.Op == api.NProgram:
		return up, api.SProgram, bind
	case up.Op == api.NCase:
		return up.up, api.SBlock, bind
	case up.up.Op == api.NFunc:
		return up.up, api.SFunc, bind
	default:
		return up, api.SBlock, bind
	}
}

// declaration is a binding as it is declared at one place.
type declaration struct {
	by, opener *item
	kind, bind int
}

// opening is a scope with the node that opens it.
type opening struct {
	api.Scope
	by *item
}

// search returns the scopes and references of a valid program.
func search(n *api.Node) ([]api.Scope, []api.Use) {
	l := items(n)
	var all []declaration
	for _, k := range l {
		if opener, kind, bind := k.declares(); opener != nil {
			all = append(all, declaration{k, opener, kind, bind})
		}
	}
	scopes := openings(l, all)
	uses := references(l, scopes)
	capture(l, scopes, uses)
	var made []api.Scope
	for _, s := range scopes {
		made = append(made, s.Scope)
	}
	for i := range uses {
		locate(l, scopes, &uses[i], all)
		uses[i].At = l[uses[i].At].At
	}
	return made, uses
}

// openings are the scopes, with names and kinds alone.
func openings(l []*item, all []declaration) []opening {
	var scopes []opening
	for _, k := range l {
		if k.own > 0 && !k.isDeclaration() && k.S != "" {
			scopes = append(scopes, opening{api.Scope{Up: around(scopes, k), Func: k.own, Kind: api.SSelf, At: k.At, Names: []api.Bind{{Name: k.S, Kind: api.BSelf}}}, k})
		}
		s := opening{api.Scope{Func: k.fn, At: k.At}, k}
		switch {
		case k.Op == api.NProgram:
			s.Up = -1
		case k.own > 0:
			s.Kind, s.Func = api.SFunc, k.own
		case k.Op == api.NCatch:
			s.Kind = api.SCatch
		case k.isLoop():
			s.Kind = api.SLoop
		default:
			s.Kind = api.SBlock
		}
		s.Names = bindings(all, k, s.Kind)
		if k.up != nil {
			s.Up = around(scopes, k)
		}
		if k.own > 0 && len(scopes) > 0 && scopes[len(scopes)-1].by == k {
			s.Up = len(scopes) - 1
		}
		if len(s.Names) > 0 || k.own > 0 || k.up == nil {
			scopes = append(scopes, s)
		}
	}
	return scopes
}

// bindings are what is declared in the scope of a kind that a node opens.
func bindings(all []declaration, by *item, kind int) []api.Bind {
	var names []api.Bind
	for _, d := range all {
		if d.opener != by || d.kind != kind {
			continue
		}
		name := d.by.S
		i := slices.IndexFunc(names, func(b api.Bind) bool { return b.Name == name })
		switch {
		case i < 0:
			names = append(names, api.Bind{Name: name, Kind: d.bind})
		case d.bind == api.BFunc:
			names[i].Kind = api.BFunc
		}
	}
	return names
}

// around returns the index of the scope that contains a node.
func around(scopes []opening, k *item) int {
	for ; k.up != nil; k = k.up {
		if k.up.Op == api.NSwitch && k.index == 0 {
			continue
		}
		for i := len(scopes) - 1; i >= 0; i-- {
			if scopes[i].by == k.up {
				return i
			}
		}
	}
	return 0
}

// references are all references, with their nodes' numbers as At, and with their scopes.
func references(l []*item, scopes []opening) []api.Use {
	var uses []api.Use
	for _, k := range l {
		if k.Op == api.NName || k.up != nil && k.up.Op == api.NProp && k.up.N == api.PropShort {
			uses = append(uses, api.Use{At: k.first, Scope: around(scopes, k), Name: k.S})
		}
	}
	return uses
}

// found returns the scope and the place of the binding to which a reference resolves, or -1.
func found(scopes []opening, u api.Use) (scope, bind int) {
	for i := u.Scope; i >= 0; i = scopes[i].Up {
		if k := slices.IndexFunc(scopes[i].Names, func(b api.Bind) bool { return b.Name == u.Name }); k >= 0 {
			return i, k
		}
	}
	return -1, -1
}

// capture tells which bindings are captured, and gives all of them their slots.
func capture(l []*item, scopes []opening, uses []api.Use) {
	for _, u := range uses {
		if s, b := found(scopes, u); s >= 0 && l[u.At].fn != scopes[s].Func {
			scopes[s].Names[b].Held = true
		}
	}
	for i, s := range scopes {
		for k, b := range s.Names {
			slot := 0
			for j, other := range scopes[:i+1] {
				for m, c := range other.Names {
					ahead := j < i || m < k
					if ahead && b.Held == c.Held && (b.Held && i == j || !b.Held && other.Func == s.Func) {
						slot++
					}
				}
			}
			if !b.Held && s.Func == 0 {
				slot++
			}
			s.Names[k].Slot = slot
		}
	}
}

// locate tells all else about a reference.
func locate(l []*item, scopes []opening, u *api.Use, all []declaration) {
	s, b := found(scopes, *u)
	if s < 0 {
		u.Where = api.AtGlobal
		return
	}
	bind := scopes[s].Names[b]
	u.Kind, u.Slot = bind.Kind, bind.Slot
	if bind.Held {
		u.Where = api.AtHeld
		for i := u.Scope; i != s; i = scopes[i].Up {
			u.Hops += cmp.Compare(Slots(scopes[i].Scope), 0)
		}
	}
	if bind.Kind != api.BLet && bind.Kind != api.BConst {
		return
	}
	i := slices.IndexFunc(all, func(d declaration) bool { return d.opener == scopes[s].by && d.by.S == u.Name })
	u.Check = mayBeEarly(l[u.At], all[i].by, scopes[s])
}

// mayBeEarly reports whether a reference to what a name declares in a scope needs a check.
func mayBeEarly(k, by *item, s opening) bool {
	decl := by.root()
	if k.root() == decl {
		return false
	}
	if k.fn != s.Func || k.first <= decl.last {
		return true
	}
	clause := func(k *item) *item {
		for k.up != s.by {
			k = k.up
		}
		return k
	}
	switch s.by.Op {
	case api.NForIn, api.NForOf:
		return clause(k).index == 1
	case api.NSwitch:
		return clause(k) != clause(decl)
	}
	return false
}
