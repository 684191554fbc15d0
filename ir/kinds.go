package ir

import (
	"pantomime/api"
	"slices"
)

// Classes of kinds, as sets of one.
const (
	expression = 1 << iota
	statement
	entry  // of an object
	spread // among the elements of an array or the arguments of a call
)

// class returns the class of a kind, and 0 for a number that is no kind.
func class(op int) int {
	switch op {
	case api.PPut, api.PCopy:
		return entry
	case api.PSpread:
		return spread
	}
	switch {
	case api.PUndef <= op && op <= api.PNeed:
		return expression
	case api.PDo <= op && op <= api.PNone:
		return statement
	}
	return 0
}

// children reports whether the children of n are the sequence that its kind asks for, each looked at by itself.
func children(n *api.Node) bool {
	first := expressions(n)
	second := first + statements(n.Op)
	if len(n.Kids) < second {
		return false
	}
	return all(n.Kids[:first], expression) && all(n.Kids[first:second], statement) && others(n.Op, n.Kids[second:])
}

// all reports whether the nodes of l are of certain classes.
func all(l []api.Node, classes int) bool {
	return !slices.ContainsFunc(l, func(n api.Node) bool { return class(n.Op)&classes == 0 })
}

// expressions returns how many expressions come first among the children of n.
func expressions(n *api.Node) int {
	count := 0
	switch n.Op {
	case api.PSet, api.PCond:
		count++
		fallthrough
	case api.PGet, api.PIn, api.PDelete, api.PBinary, api.PLogic, api.PCallOn, api.PPut:
		count++
		fallthrough
	case api.PSetLocal, api.PSetHeld, api.PSetGlobal, api.PCheck, api.PConst,
		api.PTypeOf, api.PKey, api.PToText, api.PToNum, api.PIter, api.PNext, api.PKeys, api.PNeed,
		api.PNew, api.PUnary, api.PYield, api.PDelegate, api.PClose, api.POthers, api.PCopy, api.PSpread,
		api.PDo, api.PReturn, api.PThrow, api.PIf, api.PLoop:
		count++
	case api.PCall:
		count = 1 + n.M // with M 1 there is a receiver
	}
	return count
}

// statements returns how many statements follow them.
func statements(op int) int {
	count := 0
	switch op {
	case api.PTry:
		count++
		fallthrough
	case api.PIf, api.PLoop:
		count++
		fallthrough
	case api.PLabel, api.PScope:
		count++
	}
	return count
}

// others reports whether l can be the children of a node of some kind behind those that come first.
func others(op int, l []api.Node) bool {
	switch op {
	case api.PObject:
		return all(l, entry)
	case api.PArray:
		return all(l, expression|spread)
	case api.PCall, api.PCallOn, api.PNew:
		return len(l) <= api.MaxArgs && all(l, expression|spread)
	case api.POthers:
		return all(l, expression)
	case api.PBlock:
		return all(l, statement)
	case api.PSeq:
		return len(l) > 0 && all(l, expression|statement) && IsExpr(l[len(l)-1].Op)
	}
	return len(l) == 0
}

// names holds the names of the kinds from PUndef on; the numbers between them have none.
var names = [...]string{
	api.PUndef - api.PUndef: "Undef", api.PNull - api.PUndef: "Null", api.PBool - api.PUndef: "Bool", api.PNum - api.PUndef: "Num", api.PNaN - api.PUndef: "NaN",
	api.PText - api.PUndef: "Text", api.PHole - api.PUndef: "Hole", api.PLocal - api.PUndef: "Local", api.PSetLocal - api.PUndef: "SetLocal", api.PHeld - api.PUndef: "Held",
	api.PSetHeld - api.PUndef: "SetHeld", api.PCheck - api.PUndef: "Check", api.PConst - api.PUndef: "Const", api.PGlobal - api.PUndef: "Global", api.PSetGlobal - api.PUndef: "SetGlobal",
	api.PTypeOf - api.PUndef: "TypeOf", api.PThis - api.PUndef: "This", api.PArg - api.PUndef: "Arg", api.PRest - api.PUndef: "Rest", api.PFunc - api.PUndef: "Func",
	api.PObject - api.PUndef: "Object", api.PPut - api.PUndef: "Put", api.PCopy - api.PUndef: "Copy", api.PArray - api.PUndef: "Array", api.PSpread - api.PUndef: "Spread",
	api.PGet - api.PUndef: "Get", api.PSet - api.PUndef: "Set", api.PDelete - api.PUndef: "Delete", api.PIn - api.PUndef: "In", api.PCall - api.PUndef: "Call",
	api.PCallOn - api.PUndef: "CallOn", api.PNew - api.PUndef: "New", api.PUnary - api.PUndef: "Unary", api.PBinary - api.PUndef: "Binary", api.PLogic - api.PUndef: "Logic",
	api.PCond - api.PUndef: "Cond", api.PSeq - api.PUndef: "Seq", api.PYield - api.PUndef: "Yield", api.PDelegate - api.PUndef: "Delegate", api.PKey - api.PUndef: "Key",
	api.PToText - api.PUndef: "ToText", api.PToNum - api.PUndef: "ToNum", api.PIter - api.PUndef: "Iter", api.PNext - api.PUndef: "Next", api.PClose - api.PUndef: "Close",
	api.PKeys - api.PUndef: "Keys", api.POthers - api.PUndef: "Others", api.PNeed - api.PUndef: "Need",

	api.PDo - api.PUndef: "Do", api.PBlock - api.PUndef: "Block", api.PIf - api.PUndef: "If", api.PLoop - api.PUndef: "Loop", api.PLabel - api.PUndef: "Label",
	api.PBreak - api.PUndef: "Break", api.PAgain - api.PUndef: "Again", api.PReturn - api.PUndef: "Return", api.PThrow - api.PUndef: "Throw", api.PTry - api.PUndef: "Try",
	api.PScope - api.PUndef: "Scope", api.PFresh - api.PUndef: "Fresh", api.PNone - api.PUndef: "None",
}

// Name returns the name of a kind, and "" for any other number.
func Name(op int) string {
	if op < api.PUndef || op > api.PNone {
		return ""
	}
	return names[op-api.PUndef]
}

// kind returns the kind that has a name, and 0 if there is none.
func kind(name string) int {
	for i := range names {
		if name == names[i] && name != "" {
			return api.PUndef + i
		}
	}
	return 0
}
