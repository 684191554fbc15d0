package tree

import (
	"pantomime/api"
	"strconv"
	"strings"
)

// names holds the names of the AST kinds; the numbers between them have none.
var names = [...]string{
	api.NProgram: "Program", api.NVar: "Var", api.NDecl: "Decl", api.NFunc: "Func", api.NParams: "Params", api.NBlock: "Block", api.NEmpty: "Empty", api.NExpr: "Expr",
	api.NIf: "If", api.NFor: "For", api.NForIn: "ForIn", api.NForOf: "ForOf", api.NWhile: "While", api.NDo: "Do", api.NBreak: "Break", api.NContinue: "Continue",
	api.NReturn: "Return", api.NThrow: "Throw", api.NTry: "Try", api.NCatch: "Catch", api.NSwitch: "Switch", api.NCase: "Case", api.NLabel: "Label",

	api.NNum: "Num", api.NText: "Text", api.NBool: "Bool", api.NNull: "Null", api.NName: "Name", api.NThis: "This", api.NTemplate: "Template", api.NArray: "Array",
	api.NObject: "Object", api.NProp: "Prop", api.NHole: "Hole", api.NSpread: "Spread", api.NUnary: "Unary", api.NUpdate: "Update", api.NBinary: "Binary", api.NLogic: "Logic",
	api.NAssign: "Assign", api.NCond: "Cond", api.NSeq: "Seq", api.NCall: "Call", api.NNew: "New", api.NDot: "Dot", api.NIndex: "Index", api.NChain: "Chain", api.NYield: "Yield",

	api.NArrPat: "ArrPat", api.NObjPat: "ObjPat", api.NPatProp: "PatProp", api.NDefault: "Default", api.NRest: "Rest",
}

// Name returns the name of an AST kind, and "" for any other number.
func Name(op int) string {
	if op < 0 || op >= len(names) {
		return ""
	}
	return names[op]
}

// Dump returns the tree as an S-expression.
func Dump(n api.Node) string {
	var b strings.Builder
	dump(&b, n)
	return b.String()
}

func dump(b *strings.Builder, n api.Node) {
	b.WriteByte('(')
	dumpFields(b, n)
	for _, k := range n.Kids {
		b.WriteByte(' ')
		dump(b, k)
	}
	b.WriteByte(')')
}

// dumpFields writes what n holds beside its children.
func dumpFields(b *strings.Builder, n api.Node) {
	name := Name(n.Op)
	if name == "" {
		name = "?" + strconv.Itoa(n.Op)
	}
	b.WriteString(name)
	if n.N != 0 {
		b.WriteString(" " + strconv.Itoa(n.N))
	}
	if n.M != 0 {
		b.WriteString(" M" + strconv.Itoa(n.M))
	}
	if n.S != "" {
		b.WriteString(" =")
		dumpText(b, n.S)
	}
}

// dumpText writes s so that no byte of it can be taken for a part of the dump.
func dumpText(b *strings.Builder, s string) {
	const hex = "0123456789ABCDEF"
	for i := range len(s) {
		c := s[i]
		if isLetter(c) || isDigit(c) {
			b.WriteByte(c)
			continue
		}
		b.WriteByte('%')
		b.WriteByte(hex[c>>4])
		b.WriteByte(hex[c&15])
	}
}
