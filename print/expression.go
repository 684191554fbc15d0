package print

import (
	"pantomime/api"
	"strconv"
)

// expression writes an expression or a part of one.
func (p *printer) expression(n *api.Node) {
	switch n.Op {
	case api.NNum:
		p.write(strconv.Itoa(n.N))
	case api.NText:
		p.quote(n.S)
	case api.NBool:
		p.write(strconv.FormatBool(n.N == 1))
	case api.NNull:
		p.write("null")
	case api.NThis:
		p.write("this")
	case api.NName:
		p.write(n.S)
	case api.NTemplate:
		p.template(n)
	case api.NArray:
		p.array(n)
	case api.NObject:
		p.object(n)
	case api.NProp:
		p.property(n)
	case api.NSpread:
		p.put(n, "...", 0)
	case api.NCall, api.NNew, api.NDot, api.NIndex, api.NChain:
		p.link(n)
	default:
		p.operation(n)
	}
}

// operation writes an operator with its operands.
func (p *printer) operation(n *api.Node) {
	switch n.Op {
	case api.NUnary:
		p.unary(n)
	case api.NUpdate:
		if n.N == 1 {
			p.put(n, n.S, 0)
		} else {
			p.put(n, 0, n.S)
		}
	case api.NBinary, api.NLogic, api.NAssign:
		p.put(n, 0, " ", n.S, " ", 1)
	case api.NCond:
		p.put(n, 0, " ? ", 1, " : ", 2)
	case api.NSeq:
		p.list(n, 0, ", ")
	case api.NYield:
		p.write("yield")
		if n.N == 1 {
			p.write("*")
		}
		p.each(n, 0, " ", "")
	}
}

// unary writes a unary operator and its operand, between which a space stands where they would be read as another token.
func (p *printer) unary(n *api.Node) {
	p.write(n.S)
	switch n.S {
	case "delete", "void", "typeof":
		p.write(" ")
	}
	start := len(p.text)
	p.kid(n, 0)
	if sign := n.S; (sign == "+" || sign == "-") && begins(p.text[start:], sign) {
		p.insert(start, " ")
	}
}

// link writes a call, a creation, a member or a chain of them.
func (p *printer) link(n *api.Node) {
	if n.Op == api.NNew {
		p.write("new ")
	}
	p.kid(n, 0)
	switch optional := n.N == 1; {
	case n.Op == api.NDot && !optional:
		p.write(".")
	case optional:
		p.write("?.")
	}
	switch n.Op {
	case api.NCall, api.NNew:
		p.write("(")
		p.list(n, 1, ", ")
		p.write(")")
	case api.NDot:
		p.write(n.S)
	case api.NIndex:
		p.put(n, "[", 1, "]")
	}
}
