package read

import "pantomime/api"

// loop reads a for statement.
func (p *parser) loop() *api.Node {
	at := p.take().At
	p.expect("(")
	n := p.loopHead(at)
	p.expect(")")
	n.Kids = append(n.Kids, *p.statement(false))
	return n
}

// loopHead reads what stands in the parentheses of the for statement at an offset.
func (p *parser) loopHead(at int) *api.Node {
	if p.isSign(";") {
		return p.clauses(at, p.empty())
	}
	if p.isWord("var", "const") || p.isName("let") {
		return p.declaringHead(at)
	}
	from := p.at
	p.head = from
	n := p.withoutIn()
	if !p.isEach() {
		n = p.sequence(n, (*parser).withoutIn)
		return p.clauses(at, node(api.NExpr, n.At, n))
	}
	left, e := p.target(n, from, "=")
	if e != api.OK {
		return stop(n.At, api.ErrTarget)
	}
	return p.each(at, left)
}

// declaringHead reads the head of a for statement that begins with declarations.
func (p *parser) declaringHead(at int) *api.Node {
	n := p.declarations(true)
	bare := len(n.Kids) == 1 && len(n.Kids[0].Kids) == 1
	if bare && p.isEach() {
		return p.each(at, n)
	}
	return p.clauses(at, n)
}

// each reads what a for head goes through.
func (p *parser) each(at int, left *api.Node) *api.Node {
	if p.acceptWord("in") {
		return node(api.NForIn, at, left, p.comma())
	}
	p.take()
	return node(api.NForOf, at, left, p.withIn())
}

// clauses reads the test and the step of a for head.
func (p *parser) clauses(at int, first *api.Node) *api.Node {
	p.expect(";")
	test := p.unless(";")
	p.expect(";")
	return node(api.NFor, at, first, test, p.unless(")"))
}

// unless reads an expression, which is omitted if a punctuator is next.
func (p *parser) unless(sign string) *api.Node {
	if p.isSign(sign) {
		return p.empty()
	}
	return p.comma()
}

// declarations reads var, let or const and what they declare; head tells whether they begin a for head, where the word in is no operator.
func (p *parser) declarations(head bool) *api.Node {
	t := p.take()
	n := node(api.NVar, t.At, p.declaration(head))
	switch t.S {
	case "let":
		n.N = 1
	case "const":
		n.N = 2
	}
	for p.accept(",") {
		n.Kids = append(n.Kids, *p.declaration(head))
	}
	return n
}

// declaration reads a declaration; in a for head a pattern may get its values from the loop.
func (p *parser) declaration(head bool) *api.Node {
	target := p.binding()
	if p.accept("=") {
		return node(api.NDecl, target.At, target, p.assignment(!head))
	}
	if target.Op != api.NName && !(head && p.isEach()) {
		return p.fail()
	}
	return node(api.NDecl, target.At, target)
}
