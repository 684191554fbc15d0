package tree

import (
	"math/bits"
	"pantomime/api"
	"slices"
)

// Right reports whether n is a well-formed tree, of whichever kind its root is.
func Right(n api.Node) bool { return right(n, 1, false) }

// right reports whether n is well-formed at a depth; spine tells whether it stands on the spine of an optional chain.
func right(n api.Node, depth int, spine bool) bool {
	if depth > api.MaxDepth || n.At < 0 || !numbers(n) || !text(n) || !children(n) {
		return false
	}
	if isLink(n) && n.N == 1 && !spine {
		return false
	}
	for i, k := range n.Kids {
		next := i == 0 && isLink(k) && (spine || n.Op == api.NChain)
		if !right(k, depth+1, next) {
			return false
		}
	}
	return inside(n)
}

// numbers reports whether N and M of n are among those that its kind may have.
func numbers(n api.Node) bool {
	return 0 <= n.N && n.N <= mostN(n.Op) && 0 <= n.M && n.M <= mostM(n)
}

func mostN(op int) int {
	switch op {
	case api.NProgram, api.NCase, api.NBool, api.NUpdate, api.NCall, api.NDot, api.NIndex, api.NYield:
		return 1
	case api.NVar:
		return 2
	case api.NProp:
		return api.PropMethod
	case api.NFunc:
		return 255
	case api.NNum:
		return api.MaxInt
	}
	return 0
}

func mostM(n api.Node) int {
	switch n.Op {
	case api.NProp:
		if n.N == api.PropShort || n.N == api.PropSpread {
			return 0
		}
		return 1
	case api.NPatProp:
		return 1
	}
	return 0
}

// text reports whether S of n is one that its kind may have.
func text(n api.Node) bool {
	switch n.Op {
	case api.NText:
		return true
	case api.NLabel, api.NName, api.NDot:
		return isName(n.S)
	case api.NBreak, api.NContinue:
		return n.S == "" || isName(n.S)
	case api.NFunc:
		return (n.S == "" || isName(n.S)) && flags(n.N, n.S != "")
	case api.NUnary, api.NUpdate, api.NBinary, api.NLogic, api.NAssign:
		return operator(n.Op, n.S)
	}
	return n.S == ""
}

// flags reports whether the function bits go together, and with a name or without one.
func flags(f int, named bool) bool {
	const (
		accessor = api.FGet | api.FSet
		nameless = api.FArrow | api.FMethod | accessor
	)
	switch {
	case bits.OnesCount(uint(f&(nameless|api.FDecl))) > 1:
		return false
	case f&api.FGen != 0 && f&(api.FArrow|accessor) != 0:
		return false
	case f&api.FShort != 0 && f&api.FArrow == 0:
		return false
	case named:
		return f&nameless == 0
	}
	return f&api.FDecl == 0
}

// operator reports whether s is an operator of a kind.
func operator(op int, s string) bool {
	switch op {
	case api.NUnary:
		return among(s, "delete", "void", "typeof", "+", "-", "!", "~")
	case api.NUpdate:
		return among(s, "++", "--")
	case api.NBinary:
		return among(s, "|", "^", "&", "==", "!=", "===", "!==", "<", ">", "<=", ">=", "instanceof", "in", "<<", ">>", "+", "-", "*", "/", "%")
	case api.NLogic:
		return among(s, "&&", "||", "??")
	}
	return among(s, "=", "+=", "-=", "*=", "/=", "%=", "&=", "|=", "^=", "<<=", ">>=", "&&=", "||=", "??=")
}

func among(s string, l ...string) bool { return slices.Contains(l, s) }

// isName reports whether s is an identifier form.
func isName(s string) bool {
	for i := range len(s) {
		if !isLetter(s[i]) && (i == 0 || !isDigit(s[i])) {
			return false
		}
	}
	return s != ""
}

func isLetter(c byte) bool {
	return 'a' <= c && c <= 'z' || 'A' <= c && c <= 'Z' || c == '_' || c == '$'
}

func isDigit(c byte) bool { return '0' <= c && c <= '9' }

// inside reports whether n keeps the rules that reach below its children, which are well-formed themselves.
func inside(n api.Node) bool {
	switch n.Op {
	case api.NForIn, api.NForOf:
		return isLeft(n.Kids[0])
	case api.NTry:
		return n.Kids[1].Op != api.NEmpty || n.Kids[2].Op != api.NEmpty
	case api.NProp:
		return isAccessor(n)
	case api.NChain:
		return isOptional(n.Kids[0])
	}
	return true
}

// isLeft reports whether what stands ahead of in or of binds or assigns one value.
func isLeft(n api.Node) bool {
	return n.Op != api.NVar || len(n.Kids) == 1 && len(n.Kids[0].Kids) == 1
}

// isAccessor reports whether n has the parameters of a getter or setter, if it is one.
func isAccessor(n api.Node) bool {
	if n.N != api.PropGet && n.N != api.PropSet {
		return true
	}
	params := n.Kids[1].Kids[0].Kids
	if n.N == api.PropGet {
		return len(params) == 0
	}
	return len(params) == 1 && params[0].Op != api.NRest
}

// isOptional reports whether the spine that begins at n has an optional node.
func isOptional(n api.Node) bool {
	for isLink(n) {
		if n.N == 1 {
			return true
		}
		n = n.Kids[0]
	}
	return false
}
