package early

import (
	"pantomime/api"
	"pantomime/cover"
	"pantomime/literal"
)

// fault returns the first error that applies to the node at p itself, and takes down what the node declares.
func (p *place) fault() api.Errno {
	switch {
	case p.isReserved() || p.isMisplaced():
		return api.ErrSyntax
	case p.isWrongYield():
		return api.ErrYield
	case p.isBarred():
		return api.ErrStrict
	case p.isMember() && p.declaration() != nil:
		return api.ErrTarget
	case p.lacksValue():
		return api.ErrConst
	case !p.declare():
		return api.ErrAgain
	case p.isWrongLabel():
		return api.ErrLabel
	case p.isWrongJump():
		return api.ErrBreak
	case p.node.Op == api.NReturn && (p.root.Op == api.NProgram || p.inHead()):
		return api.ErrReturn
	}
	return api.OK
}

// isReference reports whether the node at p stands for a variable.
func (p *place) isReference() bool {
	switch p.node.Op {
	case api.NName:
		return true
	case api.NText:
		return p.up.node.Op == api.NProp && p.up.node.N == api.PropShort
	}
	return false
}

// name returns the name that the node at p has, or "" if it has none that could be a reserved word by mistake.
func (p *place) name() string {
	switch p.node.Op {
	case api.NLabel, api.NBreak, api.NContinue, api.NFunc:
		return p.node.S
	}
	if p.isReference() {
		return p.node.S
	}
	return ""
}

func (p *place) isReserved() bool {
	return literal.Word(p.name()) == 1 || p.name() == "let"
}

// isMisplaced reports whether the node at p is a declaration that would need a block around it to be the statement of another one.
func (p *place) isMisplaced() bool {
	n := p.node
	if !(n.Op == api.NFunc && n.N&api.FDecl != 0) && !(n.Op == api.NVar && n.N != 0) {
		return false
	}
	switch p.up.node.Op {
	case api.NIf, api.NWhile, api.NDo, api.NLabel:
		return true
	case api.NFor, api.NForIn, api.NForOf:
		return p.index > 0
	}
	return false
}

func (p *place) isWrongYield() bool {
	generator := p.root.Op == api.NFunc && p.root.N&api.FGen != 0
	if p.node.Op == api.NYield {
		return !generator || p.inHead()
	}
	return generator && p.isReference() && p.node.S == "yield"
}

// isBarred reports whether the node at p can't stand in strict code, in which it stands.
func (p *place) isBarred() bool {
	n := p.node
	own := n.Op == api.NFunc && Strict(*n)
	switch {
	case !p.strict && !own:
		return false
	case literal.Word(p.name()) == 2:
		return true
	case own:
		return !cover.Simple(n.Kids[0])
	}
	return n.Op == api.NUnary && n.S == "delete" && n.Kids[0].Op == api.NName
}

// lacksValue reports whether the node at p is a declaration without the initializer that it has to have.
func (p *place) lacksValue() bool {
	if p.node.Op != api.NDecl || len(p.node.Kids) == 2 || p.up.isLoopVariable() {
		return false
	}
	return p.up.node.N == 2 || p.node.Kids[0].Op != api.NName
}

// isLoopVariable reports whether the loop around p gives it its values.
func (p *place) isLoopVariable() bool {
	loop := p.up.node.Op
	return p.index == 0 && (loop == api.NForIn || loop == api.NForOf)
}

func (p *place) isWrongLabel() bool {
	n := p.node
	switch n.Op {
	case api.NLabel:
		return p.label(n.S) != nil
	case api.NBreak, api.NContinue:
		return n.S != "" && p.label(n.S) == nil
	}
	return false
}

func (p *place) isWrongJump() bool {
	n := p.node
	switch {
	case n.Op == api.NBreak:
		return n.S == "" && !p.inLoop() && !p.inCase()
	case n.Op != api.NContinue:
		return false
	case n.S == "":
		return !p.inLoop()
	}
	return !isLoop(labelled(p.label(n.S)))
}

// labelled returns the statement of a label, or of the last one of labels in a row.
func labelled(n *api.Node) *api.Node {
	for n.Op == api.NLabel {
		n = &n.Kids[0]
	}
	return n
}
