package read

import (
	"pantomime/api"
	"pantomime/literal"
	"strconv"
	"strings"
)

// written writes source text for a tree, with every expression in parentheses, so that no rule on operators is needed to read it again.
func written(n api.Node) string {
	switch n.Op {
	case api.NProgram, api.NBlock:
		s := each(n.Kids, " ")
		if n.Op == api.NBlock {
			s = "{" + s + "}"
		}
		return s
	case api.NVar:
		return []string{"var ", "let ", "const "}[n.N] + each(n.Kids, ", ") + ";"
	case api.NDecl, api.NDefault:
		return each(n.Kids, " = ")
	case api.NEmpty:
		return ";"
	case api.NExpr:
		return statementText(n.Kids[0]) + ";"
	case api.NParams:
		return "(" + each(n.Kids, ", ") + ")"
	case api.NArrPat, api.NArray:
		s := each(n.Kids, ", ")
		if len(n.Kids) > 0 && n.Kids[len(n.Kids)-1].Op == api.NHole {
			s += ","
		}
		return "[" + s + "]"
	case api.NObjPat:
		return "{" + each(n.Kids, ", ") + "}"
	case api.NPatProp:
		return keyText(n) + ": " + written(n.Kids[1])
	case api.NRest, api.NSpread:
		return "..." + written(n.Kids[0])
	case api.NHole:
		return ""
	case api.NCase:
		if n.N == 1 {
			return "default: " + each(n.Kids, " ")
		}
		return "case " + written(n.Kids[0]) + ": " + each(n.Kids[1:], " ")
	}
	if n.Op < api.NNum && n.Op != api.NFunc {
		return jumpText(n)
	}
	return expressionText(n)
}

// statementText writes an expression as a statement; a string stays bare, because it may be a directive.
func statementText(n api.Node) string {
	if n.Op == api.NText {
		return literal.Quote(n.S)
	}
	return written(n)
}

// jumpText writes the statements that begin with a word or a label.
func jumpText(n api.Node) string {
	k := make([]string, 4)
	for i := range min(4, len(n.Kids)) {
		k[i] = written(n.Kids[i])
	}
	switch n.Op {
	case api.NIf:
		if len(n.Kids) == 3 {
			return "if (" + k[0] + ") " + k[1] + " else " + k[2]
		}
		return "if (" + k[0] + ") " + k[1]
	case api.NFor:
		return "for (" + headText(n.Kids[0]) + "; " + headText(n.Kids[1]) + "; " + headText(n.Kids[2]) + ") " + k[3]
	case api.NForIn:
		return "for (" + headText(n.Kids[0]) + " in " + k[1] + ") " + k[2]
	case api.NForOf:
		return "for (" + headText(n.Kids[0]) + " of " + k[1] + ") " + k[2]
	case api.NWhile:
		return "while (" + k[0] + ") " + k[1]
	case api.NDo:
		return "do " + k[0] + " while (" + k[1] + ");"
	case api.NBreak:
		return strings.TrimSpace("break "+n.S) + ";"
	case api.NContinue:
		return strings.TrimSpace("continue "+n.S) + ";"
	case api.NReturn:
		return "return " + k[0] + ";"
	case api.NThrow:
		return "throw " + k[0] + ";"
	case api.NTry:
		return "try " + k[0] + strings.TrimSuffix(k[1], ";") + finalText(n.Kids[2])
	case api.NCatch:
		if n.Kids[0].Op == api.NEmpty {
			return " catch " + k[1]
		}
		return " catch (" + k[0] + ") " + k[1]
	case api.NSwitch:
		return "switch (" + k[0] + ") {" + each(n.Kids[1:], " ") + "}"
	case api.NLabel:
		return n.S + ": " + k[0]
	}
	return "?"
}

func finalText(n api.Node) string {
	if n.Op == api.NEmpty {
		return ""
	}
	return " finally " + written(n)
}

// headText writes a part of a for head.
func headText(n api.Node) string { return strings.TrimSuffix(written(n), ";") }

// expressionText writes an expression with what has to stand around it.
func expressionText(n api.Node) string {
	switch n.Op {
	case api.NName:
		return n.S
	case api.NDot, api.NIndex:
		if n.N == 0 {
			return linkText(n)
		}
	case api.NFunc:
		if n.N&api.FDecl != 0 {
			return functionText(n)
		}
	case api.NChain:
		return "(" + linkText(n.Kids[0]) + ")"
	}
	return "(" + bareText(n) + ")"
}

// bareText writes an expression without parentheses around it.
func bareText(n api.Node) string {
	switch n.Op {
	case api.NNum:
		return strconv.Itoa(n.N)
	case api.NText:
		return literal.Quote(n.S)
	case api.NBool:
		return []string{"false", "true"}[n.N]
	case api.NNull:
		return "null"
	case api.NThis:
		return "this"
	case api.NTemplate:
		return templateText(n)
	case api.NObject:
		return "{" + each(n.Kids, ", ") + "}"
	case api.NProp:
		return propertyText(n)
	case api.NArray:
		return written(n)
	case api.NFunc:
		return functionText(n)
	case api.NUnary:
		return n.S + " " + written(n.Kids[0])
	case api.NUpdate:
		if n.N == 1 {
			return n.S + written(n.Kids[0])
		}
		return written(n.Kids[0]) + n.S
	case api.NBinary, api.NLogic, api.NAssign:
		return written(n.Kids[0]) + " " + n.S + " " + written(n.Kids[1])
	case api.NCond:
		return written(n.Kids[0]) + " ? " + written(n.Kids[1]) + " : " + written(n.Kids[2])
	case api.NSeq:
		return each(n.Kids, ", ")
	case api.NNew:
		return "new (" + written(n.Kids[0]) + ")(" + each(n.Kids[1:], ", ") + ")"
	case api.NYield:
		if n.N == 1 {
			return "yield* " + written(n.Kids[0])
		}
		return "yield " + each(n.Kids, "")
	}
	return linkText(n)
}

// linkText writes members and calls; what is optional stays on the chain.
func linkText(n api.Node) string {
	mark := ""
	if n.N == 1 {
		mark = "?."
	}
	object := ""
	switch k := n.Kids[0]; k.Op {
	case api.NDot, api.NIndex, api.NCall:
		object = linkText(k)
	default:
		object = written(k)
	}
	switch {
	case n.Op == api.NCall:
		return object + mark + "(" + each(n.Kids[1:], ", ") + ")"
	case n.Op == api.NIndex:
		return object + mark + "[" + written(n.Kids[1]) + "]"
	case n.N == 1:
		return object + "?." + n.S
	}
	return object + "." + n.S
}

func templateText(n api.Node) string {
	s := "`"
	for i, k := range n.Kids {
		if i%2 == 1 {
			s += "${" + written(k) + "}"
			continue
		}
		quoted := literal.Quote(k.S)
		s += strings.NewReplacer("`", "\\`", "$", "\\$").Replace(quoted[1 : len(quoted)-1])
	}
	return s + "`"
}

func keyText(n api.Node) string {
	switch k := n.Kids[0]; {
	case n.M == 1:
		return "[" + written(k) + "]"
	case k.Op == api.NNum:
		return strconv.Itoa(k.N)
	default:
		return literal.Quote(k.S)
	}
}

func propertyText(n api.Node) string {
	switch n.N {
	case api.PropShort:
		return n.Kids[0].S
	case api.PropSpread:
		return "..." + written(n.Kids[0])
	case api.PropValue:
		return keyText(n) + ": " + written(n.Kids[1])
	}
	f := n.Kids[1]
	head := keyText(n) + each(f.Kids, " ")
	switch {
	case n.N == api.PropGet:
		return "get " + head
	case n.N == api.PropSet:
		return "set " + head
	case f.N&api.FGen != 0:
		return "*" + head
	}
	return head
}

func functionText(n api.Node) string {
	switch {
	case n.N&api.FArrow != 0:
		return each(n.Kids, " => ")
	case n.N&api.FGen != 0:
		return "function* " + n.S + each(n.Kids, " ")
	}
	return "function " + n.S + each(n.Kids, " ")
}

// each writes nodes with a text between them.
func each(l []api.Node, between string) string {
	var out []string
	for _, k := range l {
		if k.Op == api.NProp {
			out = append(out, propertyText(k))
		} else {
			out = append(out, written(k))
		}
	}
	return strings.Join(out, between)
}
