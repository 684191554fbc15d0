package read

import (
	"pantomime/api"
	"pantomime/asi"
	"pantomime/token"
)

// function reads a function that begins with that word; flags is FDecl for a declaration, which has to have a name.
func (p *parser) function(flags int) *api.Node {
	n := node(api.NFunc, p.take().At)
	n.N = flags
	if p.accept("*") {
		n.N |= api.FGen
	}
	switch {
	case p.now().Kind == token.Name && !p.isName("let"):
		n.S = p.take().S
	case flags == api.FDecl:
		return p.fail()
	}
	return p.rest(n)
}

// rest reads the parameters and the body of function n.
func (p *parser) rest(n *api.Node) *api.Node {
	outer := p.gen
	p.gen = n.N&api.FGen != 0
	params := p.parameters(n.N)
	body, strict := p.body()
	p.gen = outer
	n.Kids = []api.Node{*params, *body}
	if strict {
		n.N |= api.FStrict
	}
	return n
}

// parameters reads the parameters of a function with certain flags.
func (p *parser) parameters(flags int) *api.Node {
	n := node(api.NParams, p.now().At)
	p.expect("(")
	switch {
	case flags&api.FGet != 0:
		p.expect(")")
	case flags&api.FSet != 0:
		n.Kids = []api.Node{*p.element()}
		p.expect(")")
	default:
		n.Kids = p.list(")", (*parser).parameter)
	}
	return n
}

// isArrow reports whether an arrow function begins here.
func (p *parser) isArrow() bool {
	last := p.at
	if p.isSign("(") {
		last = p.ends[p.at]
		if last == 0 || !is(p.l[last], ")") {
			return false
		}
	} else if !p.isFree() {
		return false
	}
	arrow := p.l[last+1]
	return is(arrow, "=>") && !asi.Bars("", arrow)
}

// arrow reads an arrow function.
func (p *parser) arrow(in bool) *api.Node {
	outer := p.gen
	p.gen = false
	params := p.arrowParameters()
	n := node(api.NFunc, params.At, params)
	n.N = api.FArrow
	p.expect("=>")
	if p.isSign("{") {
		p.arrowBody(n)
	} else {
		n.N |= api.FShort
		n.Kids = append(n.Kids, *p.assignment(in))
	}
	p.gen = outer
	return n
}

// arrowBody reads the body of arrow function n in braces.
func (p *parser) arrowBody(n *api.Node) {
	body, strict := p.body()
	n.Kids = append(n.Kids, *body)
	if strict {
		n.N |= api.FStrict
	}
}

func (p *parser) arrowParameters() *api.Node {
	if p.isSign("(") {
		return p.parameters(api.FArrow)
	}
	n := p.name()
	return node(api.NParams, n.At, n)
}
