package print

import "pantomime/api"

// Precedence levels; those of the binary operators run from logic to below unary.
const (
	lowest  = 0
	assign  = 1
	cond    = 2
	logic   = 3 // the first of NLogic
	binary  = 6 // the first of NBinary
	unary   = 14
	postfix = 15
	call    = 16
	creator = 17
	primary = 18
)

// levels are the precedence levels of the binary operators by their texts.
type levels map[string]int

func newLevels() levels {
	return levels{
		"??": logic, "||": 4, "&&": 5,
		"|": binary, "^": 7, "&": 8,
		"==": 9, "!=": 9, "===": 9, "!==": 9,
		"<": 10, ">": 10, "<=": 10, ">=": 10, "instanceof": 10, "in": 10,
		"<<": 11, ">>": 11, "+": 12, "-": 12, "*": 13, "/": 13, "%": 13,
	}
}

// of returns the precedence level of an expression.
func (l levels) of(n *api.Node) int {
	switch n.Op {
	case api.NSeq:
		return lowest
	case api.NAssign, api.NYield:
		return assign
	case api.NFunc:
		if n.N&api.FArrow != 0 {
			return assign
		}
	case api.NCond:
		return cond
	case api.NLogic, api.NBinary:
		return l.operator(n)
	case api.NUnary:
		return unary
	case api.NUpdate:
		if n.N == 1 {
			return unary
		}
		return postfix
	case api.NCall, api.NDot, api.NIndex, api.NChain:
		return call
	case api.NNew:
		return creator
	}
	return primary
}

// operator returns the level of an NLogic or NBinary, whose operator may be any text.
func (l levels) operator(n *api.Node) int {
	level, known := l[n.S]
	if !known || (n.Op == api.NLogic) != (level < binary) {
		return primary
	}
	return level
}

// required returns the level that the child of n at index i must have to stand there without parentheses.
func (l levels) required(n *api.Node, i int) int {
	switch n.Op {
	case api.NSeq, api.NDecl, api.NDefault, api.NAssign, api.NArray, api.NSpread, api.NProp, api.NPatProp, api.NYield, api.NFunc:
		return assign
	case api.NForOf:
		return at(i, lowest, assign)
	case api.NCond:
		if i != 0 {
			return assign
		}
		return logic
	case api.NLogic:
		return requiredOfLogic(n.S, i)
	case api.NBinary:
		return at(i, l.of(n), l.of(n)+1)
	case api.NUnary:
		return unary
	case api.NUpdate:
		return call
	case api.NCall, api.NNew:
		if i > 0 {
			return assign
		}
		return at(i, call)
	case api.NDot, api.NIndex:
		return at(i, call)
	}
	return lowest
}

// requiredOfLogic is required for an NLogic with some operator.
func requiredOfLogic(operator string, i int) int {
	switch operator {
	case "??":
		return at(i, logic, binary)
	case "||":
		return at(i, 4, 5)
	case "&&":
		return at(i, 5, binary)
	}
	return lowest
}

// at returns number i of some levels, and the lowest where there is none.
func at(i int, l ...int) int {
	if i < 0 || i >= len(l) {
		return lowest
	}
	return l[i]
}

// isExpr reports whether n is of a kind that may have to be in parentheses.
func isExpr(n *api.Node) bool {
	if n.Op == api.NFunc {
		return n.N&api.FDecl == 0
	}
	return api.NNum <= n.Op && n.Op <= api.NObject || api.NUnary <= n.Op && n.Op <= api.NYield
}

// needs reports whether kid must be in parentheses as the child of n at index i.
func (l levels) needs(n, kid *api.Node, i int) bool {
	switch {
	case !isExpr(kid):
		return false
	case l.of(kid) < l.required(n, i):
		return true
	case n.Op == api.NLogic && n.S == "??":
		return kid.Op == api.NLogic && (kid.S == "||" || kid.S == "&&")
	case i != 0:
		return false
	case kid.Op == api.NChain:
		return n.Op == api.NNew || isLink(n)
	}
	return n.Op == api.NNew && beginsWithCall(kid)
}

// beginsWithCall reports whether arguments behind n, a callee of new, would be taken for those of a call that n begins with. A chain hides a call, because it is in parentheses there.
func beginsWithCall(n *api.Node) bool {
	for isMember(n) && len(n.Kids) > 0 {
		n = &n.Kids[0]
	}
	return n.Op == api.NCall
}

func isMember(n *api.Node) bool { return n.Op == api.NDot || n.Op == api.NIndex }

func isLink(n *api.Node) bool { return n.Op == api.NCall || isMember(n) }
