package read

import (
	"pantomime/api"
	"pantomime/cover"
	"pantomime/token"
)

// rule reads an expression.
type rule func(*parser) *api.Node

// comma reads a comma expression.
func (p *parser) comma() *api.Node { return p.sequence(p.withIn(), (*parser).withIn) }

func (p *parser) withIn() *api.Node { return p.assignment(true) }

func (p *parser) withoutIn() *api.Node { return p.assignment(false) }

// sequence reads what follows the first expression of a comma expression.
func (p *parser) sequence(first *api.Node, next rule) *api.Node {
	if !p.isSign(",") {
		return first
	}
	n := node(api.NSeq, first.At, first)
	for p.accept(",") {
		n.Kids = append(n.Kids, *next(p))
	}
	return n
}

// assignment reads an assignment expression; in tells whether the word in is an operator.
func (p *parser) assignment(in bool) *api.Node {
	switch {
	case p.gen && p.isName("yield"):
		return p.yield(in)
	case p.isArrow():
		return p.arrow(in)
	}
	from := p.at
	n := p.conditional(in)
	if p.isAssign() {
		return p.assign(n, from, in)
	}
	return n
}

// isAssign reports whether the next token is an assignment operator.
func (p *parser) isAssign() bool {
	return p.isSign("=", "+=", "-=", "*=", "/=", "%=", "&=", "|=", "^=", "<<=", ">>=", "&&=", "||=", "??=")
}

// assign reads the rest of an assignment behind its left side, of which token from is the first.
func (p *parser) assign(n *api.Node, from int, in bool) *api.Node {
	op := p.now().S
	left, e := p.target(n, from, op)
	if e != api.OK {
		return stop(n.At, e)
	}
	p.take()
	n = node(api.NAssign, left.At, left, p.assignment(in))
	n.S = op
	return n
}

func (p *parser) yield(in bool) *api.Node {
	n := node(api.NYield, p.take().At)
	switch {
	case p.bars("yield") || p.isEnd() || p.isWord("in") || p.isSign(")", "]", "}", ",", ";", ":") || p.isPiece(1):
		return n
	case p.accept("*"):
		n.N = 1
	}
	n.Kids = []api.Node{*p.assignment(in)}
	return n
}

func (p *parser) conditional(in bool) *api.Node {
	n := p.binary(1, in)
	if !p.accept("?") {
		return n
	}
	yes := p.withIn()
	p.expect(":")
	return node(api.NCond, n.At, n, yes, p.assignment(in))
}

// binary reads unary expressions and the operators between them, as long as their rank is not below the least.
func (p *parser) binary(least int, in bool) *api.Node {
	n := p.unary()
	ahead := ""
	for {
		op := p.operator(in)
		rank := Rank(op)
		if rank < least {
			return n
		}
		if clash(ahead, op) || clash(op, ahead) {
			return p.fail()
		}
		if op == "??" {
			// Its operands can't be && and ||, which are left to the next turn to be refused.
			rank = Rank("&&")
		}
		p.take()
		n = node(kind(op), n.At, n, p.binary(rank+1, in))
		n.S = op
		ahead = op
	}
}

// clash reports whether one operator can't be an operand of the other without parentheses.
func clash(a, b string) bool { return a == "??" && (b == "&&" || b == "||") }

// operator returns the next token's text if that can be a binary operator.
func (p *parser) operator(in bool) string {
	t := p.now()
	if t.Kind != token.Sign && t.Kind != token.Word || t.S == "in" && !in {
		return ""
	}
	return t.S
}

// kind returns the kind of the node for a binary operator.
func kind(op string) int {
	if op == "&&" || op == "||" || op == "??" {
		return api.NLogic
	}
	return api.NBinary
}

func (p *parser) unary() *api.Node {
	switch {
	case p.isWord("delete", "void", "typeof") || p.isSign("+", "-", "!", "~"):
		t := p.take()
		n := node(api.NUnary, t.At, p.unary())
		n.S = t.S
		return n
	case p.isSign("++", "--"):
		t := p.take()
		n := update(t, t.At, p.unary())
		n.N = 1
		return n
	}
	n := p.call()
	if p.isSign("++", "--") && !p.bars("") {
		return update(p.take(), n.At, n)
	}
	return n
}

// update makes a node of the operator ++ or -- and its operand.
func update(operator *token.Token, at int, operand *api.Node) *api.Node {
	if !cover.Target(*operand) {
		return stop(operand.At, api.ErrTarget)
	}
	n := node(api.NUpdate, at, operand)
	n.S = operator.S
	return n
}
