package ir

import (
	"pantomime/api"
	"pantomime/tree"
	"slices"
)

// numbers reports whether N and M of n are among those that its kind may have where it stands.
func (p place) numbers(n *api.Node) bool {
	return within(leastN(n.Op), n.N, p.mostN(n.Op)) && within(0, n.M, p.mostM(n))
}

func leastN(op int) int {
	switch op {
	case api.PNum:
		return -api.MaxInt
	case api.PArg:
		return -1
	case api.PFunc:
		return 1
	}
	return 0
}

func (p place) mostN(op int) int {
	switch op {
	case api.PBool, api.PSetGlobal, api.PSet, api.PDelete, api.PClose:
		return 1
	case api.PPut:
		return api.PropSet
	case api.PNum:
		return api.MaxInt
	case api.PLocal, api.PSetLocal, api.PTry:
		return p.fn.Locals - 1
	case api.PHeld, api.PSetHeld:
		return p.contexts.count() - 1
	case api.PArg, api.PRest:
		return api.MaxArgs
	case api.PFunc:
		return len(p.funcs) - 1
	case api.PLoop, api.PLabel, api.PBreak, api.PAgain, api.PScope:
		return api.MaxNames
	}
	return 0
}

// mostM returns the greatest M of a node whose N is right.
func (p place) mostM(n *api.Node) int {
	switch n.Op {
	case api.PCall:
		return 1
	case api.PLoop:
		return api.MaxNames
	case api.PHeld, api.PSetHeld:
		return p.contexts.at(n.N).slots - 1
	}
	return 0
}

// text reports whether S of n is one that its kind may have.
func text(n *api.Node) bool {
	switch n.Op {
	case api.PText:
		return len(n.S) <= api.MaxText
	case api.PCheck, api.PConst, api.PGlobal, api.PSetGlobal:
		return len(n.S) <= api.MaxText && isIdentifier(n.S)
	case api.PUnary:
		return among(n.S, "-", "+", "!", "~", "void")
	case api.PBinary:
		return among(n.S, "|", "^", "&", "==", "!=", "===", "!==", "<", ">", "<=", ">=", "instanceof", "in", "<<", ">>", "+", "-", "*", "/", "%")
	case api.PLogic:
		return among(n.S, "&&", "||", "??")
	}
	return n.S == ""
}

// isIdentifier reports whether s is an identifier form, which is what the name of a variable has to be in an AST.
func isIdentifier(s string) bool { return tree.Right(api.Node{Op: api.NName, S: s}) }

func among(s string, l ...string) bool { return slices.Contains(l, s) }
