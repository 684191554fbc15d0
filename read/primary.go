package read

import (
	"pantomime/api"
	"pantomime/token"
)

func (p *parser) primary() *api.Node {
	t := p.now()
	switch {
	case t.Kind == token.Num || t.Kind == token.Text:
		return p.constant()
	case t.Kind == token.Word:
		return p.wordPrimary()
	case p.isFree():
		return p.name()
	case p.isPiece(0):
		return p.template()
	case p.isSign("("):
		return p.parentheses()
	case p.isSign("["):
		return p.literal((*parser).array)
	case p.isSign("{"):
		return p.literal((*parser).object)
	}
	return p.fail()
}

// constant reads a number, or a text from a string or a name.
func (p *parser) constant() *api.Node {
	t := p.take()
	if t.Kind == token.Num {
		return &api.Node{Op: api.NNum, At: t.At, N: t.N}
	}
	return &api.Node{Op: api.NText, At: t.At, S: t.S}
}

// wordPrimary reads a primary expression that begins with a reserved word.
func (p *parser) wordPrimary() *api.Node {
	n := node(0, p.now().At)
	switch p.now().S {
	case "function":
		return p.function(0)
	case "true":
		n.Op, n.N = api.NBool, 1
	case "false":
		n.Op = api.NBool
	case "null":
		n.Op = api.NNull
	case "this":
		n.Op = api.NThis
	default:
		return p.fail()
	}
	p.take()
	return n
}

func (p *parser) template() *api.Node {
	n := node(api.NTemplate, p.now().At)
	for {
		open := p.now().Open
		n.Kids = append(n.Kids, *p.constant())
		if !open {
			return n
		}
		n.Kids = append(n.Kids, *p.comma())
		if !p.isPiece(1) {
			return p.fail()
		}
	}
}

// parentheses reads a list of expressions in parentheses that are not those of an arrow function.
func (p *parser) parentheses() *api.Node {
	p.take()
	if p.accept(")") {
		return p.fail()
	}
	outer := p.first
	p.first = 0
	n := p.sequence(p.mayBePart(), (*parser).mayBePart)
	p.expect(")")
	if p.first != 0 {
		return p.failDefault()
	}
	p.first = outer
	return n
}

// mayBePart reads an expression that is a part of a pattern if what it stands in turns out to be one.
func (p *parser) mayBePart() *api.Node {
	p.part = p.at
	return p.withIn()
}

// failDefault ends the parsing because the literal with the first default that waits is no pattern.
func (p *parser) failDefault() *api.Node { return stop(p.l[p.first].At, api.ErrSyntax) }

// literal reads an array or object literal. If defaults stand in it, what follows has to make it a pattern, or leave that to what it is a part of.
func (p *parser) literal(read rule) *api.Node {
	outer, part, head := p.first, p.part == p.at, p.head == p.at
	p.first = 0
	n := read(p)
	switch {
	case p.first == 0, p.isSign("="), head && p.isEach():
		p.first = outer
	case !part || !p.isSign(",", "]", "}", ")"):
		return p.failDefault()
	case outer != 0:
		p.first = outer
	}
	return n
}

func (p *parser) array() *api.Node {
	n := node(api.NArray, p.take().At)
	n.Kids = p.list("]", (*parser).arrayElement)
	return n
}

func (p *parser) arrayElement() (n *api.Node, last bool) {
	switch {
	case p.isSign(","):
		return p.hole(), false
	case p.isSign("..."):
		return node(api.NSpread, p.take().At, p.mayBePart()), false
	}
	return p.mayBePart(), false
}
