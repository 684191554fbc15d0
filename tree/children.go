package tree

import (
	"math"
	"pantomime/api"
	"slices"
)

// test is asked of a single child.
type test func(api.Node) bool

// part is a run of children for which a test holds, from least to most of them.
type part struct {
	holds       test
	least, most int
}

func one(t test) part   { return part{t, 1, 1} }
func maybe(t test) part { return part{t, 0, 1} }
func many(t test) part  { return part{t, 0, math.MaxInt} }

// fits reports whether l consists of the parts in order. Each takes the longest run that it can, because no sequence of a kind leaves a child that fits to a later part.
func fits(l []api.Node, parts ...part) bool {
	for _, p := range parts {
		run := 0
		for run < len(l) && run < p.most && p.holds(l[run]) {
			run++
		}
		if run < p.least {
			return false
		}
		l = l[run:]
	}
	return len(l) == 0
}

// of returns the test for a node of one of some kinds.
func of(ops ...int) test {
	return func(n api.Node) bool { return slices.Contains(ops, n.Op) }
}

// or returns the test for a node for which t holds or that is of one of some kinds.
func or(t test, ops ...int) test {
	return func(n api.Node) bool { return t(n) || slices.Contains(ops, n.Op) }
}

// children reports whether the children of n, each looked at by itself, are the sequence that its kind asks for.
func children(n api.Node) bool {
	switch {
	case n.Op <= api.NLabel:
		return statementChildren(n, n.Kids)
	case n.Op <= api.NYield:
		return expressionChildren(n, n.Kids)
	}
	return patternChildren(n, n.Kids)
}

// statementChildren is children for programs, functions, statements and their parts.
func statementChildren(n api.Node, l []api.Node) bool {
	switch n.Op {
	case api.NEmpty, api.NBreak, api.NContinue:
		return fits(l)
	case api.NProgram, api.NBlock:
		return fits(l, many(isStatement))
	case api.NVar:
		return fits(l, one(of(api.NDecl)), many(of(api.NDecl)))
	case api.NDecl:
		return fits(l, one(isTarget), maybe(isExpr))
	case api.NFunc:
		return fits(l, one(of(api.NParams)), one(body(n)))
	case api.NParams:
		return fits(l, many(or(isTarget, api.NDefault)), maybe(of(api.NRest)))
	case api.NExpr, api.NThrow:
		return fits(l, one(isExpr))
	case api.NIf:
		return fits(l, one(isExpr), one(isStatement), maybe(isStatement))
	case api.NFor:
		clause := one(or(isExpr, api.NEmpty))
		return fits(l, one(of(api.NVar, api.NExpr, api.NEmpty)), clause, clause, one(isStatement))
	case api.NForIn, api.NForOf:
		return fits(l, one(or(isTarget, api.NVar)), one(isExpr), one(isStatement))
	case api.NWhile:
		return fits(l, one(isExpr), one(isStatement))
	case api.NDo:
		return fits(l, one(isStatement), one(isExpr))
	case api.NReturn:
		return fits(l, maybe(isExpr))
	case api.NTry:
		return fits(l, one(of(api.NBlock)), one(of(api.NCatch, api.NEmpty)), one(of(api.NBlock, api.NEmpty)))
	case api.NCatch:
		return fits(l, one(or(isTarget, api.NEmpty)), one(of(api.NBlock)))
	case api.NSwitch:
		return fits(l, one(isExpr), many(of(api.NCase)))
	case api.NCase:
		if n.N == 1 {
			return fits(l, many(isStatement))
		}
		return fits(l, one(isExpr), many(isStatement))
	case api.NLabel:
		return fits(l, one(isStatement))
	}
	return false
}

// body returns the test for the body of a function.
func body(n api.Node) test {
	if n.N&api.FShort != 0 {
		return isExpr
	}
	return of(api.NBlock)
}

// expressionChildren is children for expressions and their parts.
func expressionChildren(n api.Node, l []api.Node) bool {
	switch n.Op {
	case api.NNum, api.NText, api.NBool, api.NNull, api.NName, api.NThis, api.NHole:
		return fits(l)
	case api.NTemplate:
		return templateChildren(l)
	case api.NArray:
		return fits(l, many(or(isExpr, api.NHole, api.NSpread)))
	case api.NObject:
		return fits(l, many(of(api.NProp)))
	case api.NProp:
		return propertyChildren(n, l)
	case api.NSpread, api.NUnary, api.NDot:
		return fits(l, one(isExpr))
	case api.NUpdate:
		return fits(l, one(isSimple))
	case api.NBinary, api.NLogic, api.NIndex:
		return fits(l, one(isExpr), one(isExpr))
	case api.NAssign:
		return fits(l, one(assigned(n)), one(isExpr))
	case api.NCond:
		return fits(l, one(isExpr), one(isExpr), one(isExpr))
	case api.NSeq:
		return fits(l, one(isExpr), one(isExpr), many(isExpr))
	case api.NCall, api.NNew:
		return fits(l, one(isExpr), many(or(isExpr, api.NSpread)))
	case api.NChain:
		return fits(l, one(isLink))
	case api.NYield:
		if n.N == 1 {
			return fits(l, one(isExpr))
		}
		return fits(l, maybe(isExpr))
	}
	return false
}

// templateChildren reports whether l is a text, followed by pairs of an expression and a text.
func templateChildren(l []api.Node) bool {
	for i, k := range l {
		if i%2 == 0 && k.Op != api.NText || i%2 == 1 && !isExpr(k) {
			return false
		}
	}
	return len(l)%2 == 1
}

// propertyChildren is children for the properties of an object literal.
func propertyChildren(n api.Node, l []api.Node) bool {
	switch n.N {
	case api.PropValue:
		return fits(l, one(key(n)), one(isExpr))
	case api.PropGet:
		return fits(l, one(key(n)), one(function(api.FGet)))
	case api.PropSet:
		return fits(l, one(key(n)), one(function(api.FSet)))
	case api.PropMethod:
		return fits(l, one(key(n)), one(function(api.FMethod)))
	case api.PropShort:
		return fits(l, one(isShortKey))
	}
	return fits(l, one(isExpr))
}

// key returns the test for the key of a property.
func key(n api.Node) test {
	if n.M == 1 {
		return isExpr
	}
	return of(api.NText, api.NNum)
}

// function returns the test for a function with a bit.
func function(bit int) test {
	return func(n api.Node) bool { return n.Op == api.NFunc && n.N&bit != 0 }
}

// assigned returns the test for the left side of an assignment.
func assigned(n api.Node) test {
	if n.S == "=" {
		return isTarget
	}
	return isSimple
}

// patternChildren is children for patterns and their parts.
func patternChildren(n api.Node, l []api.Node) bool {
	switch n.Op {
	case api.NArrPat:
		return fits(l, many(or(isTarget, api.NDefault, api.NHole)), maybe(of(api.NRest)))
	case api.NObjPat:
		return fits(l, many(of(api.NPatProp)), maybe(of(api.NRest)))
	case api.NPatProp:
		return fits(l, one(key(n)), one(or(isTarget, api.NDefault)))
	case api.NDefault:
		return fits(l, one(isTarget), one(isExpr))
	case api.NRest:
		return fits(l, one(isTarget))
	}
	return false
}

func isStatement(n api.Node) bool {
	switch {
	case n.Op == api.NFunc:
		return n.N&api.FDecl != 0
	case n.Op == api.NVar || n.Op == api.NSwitch || n.Op == api.NLabel:
		return true
	}
	return api.NBlock <= n.Op && n.Op <= api.NTry
}

func isExpr(n api.Node) bool {
	if n.Op == api.NFunc {
		return n.N&(api.FDecl|api.FGet|api.FSet|api.FMethod) == 0
	}
	return api.NNum <= n.Op && n.Op <= api.NObject || api.NUnary <= n.Op && n.Op <= api.NYield
}

func isSimple(n api.Node) bool {
	return n.Op == api.NName || (n.Op == api.NDot || n.Op == api.NIndex) && n.N == 0
}

func isTarget(n api.Node) bool {
	return isSimple(n) || n.Op == api.NArrPat || n.Op == api.NObjPat
}

// isLink reports whether n is of a kind that can stand on the spine of an optional chain.
func isLink(n api.Node) bool {
	return n.Op == api.NCall || n.Op == api.NDot || n.Op == api.NIndex
}

func isShortKey(n api.Node) bool { return n.Op == api.NText && isName(n.S) }
