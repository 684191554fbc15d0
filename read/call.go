package read

import (
	"pantomime/api"
	"pantomime/token"
)

// call reads a call expression.
func (p *parser) call() *api.Node {
	n := p.callee()
	chain := false
	for p.isSign(".", "[", "(", "?.") {
		chain = chain || p.isSign("?.")
		n = p.link(n)
	}
	if p.isPiece(0) {
		return p.fail()
	}
	if chain {
		return node(api.NChain, n.At, n)
	}
	return n
}

// callee reads what members and arguments follow.
func (p *parser) callee() *api.Node {
	if p.isWord("new") {
		return p.creation()
	}
	return p.primary()
}

// creation reads a new expression.
func (p *parser) creation() *api.Node {
	at := p.take().At
	n := p.callee()
	for p.isSign(".", "[") {
		n = p.member(n)
	}
	if p.isSign("?.") || p.isPiece(0) {
		return p.fail()
	}
	n = node(api.NNew, at, n)
	if p.isSign("(") {
		p.arguments(n)
	}
	return n
}

// link reads a member or the arguments of n.
func (p *parser) link(n *api.Node) *api.Node {
	optional := p.accept("?.")
	switch {
	case p.isSign("("):
		n = node(api.NCall, n.At, n)
		p.arguments(n)
	case optional && !p.isSign("["):
		n = p.dot(n)
	default:
		n = p.member(n)
	}
	if optional {
		n.N = 1
	}
	return n
}

// member reads a member of n.
func (p *parser) member(n *api.Node) *api.Node {
	if p.accept(".") {
		return p.dot(n)
	}
	p.expect("[")
	n = node(api.NIndex, n.At, n, p.comma())
	p.expect("]")
	return n
}

// dot reads the name of a member of n.
func (p *parser) dot(n *api.Node) *api.Node {
	if p.now().Kind != token.Name && p.now().Kind != token.Word {
		return p.fail()
	}
	n = node(api.NDot, n.At, n)
	n.S = p.take().S
	return n
}

// arguments reads the arguments of call n.
func (p *parser) arguments(n *api.Node) {
	p.expect("(")
	n.Kids = append(n.Kids, p.list(")", (*parser).argument)...)
}

func (p *parser) argument() (n *api.Node, last bool) {
	if p.isSign("...") {
		return node(api.NSpread, p.take().At, p.withIn()), false
	}
	return p.withIn(), false
}
