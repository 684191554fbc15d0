package read

import (
	"pantomime/api"
	"pantomime/asi"
	"pantomime/token"
)

// program reads a program.
func (p *parser) program() *api.Node {
	n := node(api.NProgram, 0)
	l, strict := p.statements((*parser).isEnd)
	n.Kids = l
	if strict {
		n.N = 1
	}
	return n
}

// statements reads a list of statements; strict tells whether a directive at its beginning makes the code strict.
func (p *parser) statements(ends func(*parser) bool) (l []api.Node, strict bool) {
	directives := true
	for !ends(p) {
		t := p.now()
		n := p.statement(true)
		l = append(l, *n)
		directives = directives && t.Kind == token.Text && n.Op == api.NExpr && n.Kids[0].Op == api.NText
		if directives && isUseStrict(t) {
			strict = true
		}
	}
	return l, strict
}

// isUseStrict reports whether t is the directive as it is written without escapes.
func isUseStrict(t *token.Token) bool {
	const text = "use strict"
	return t.S == text && t.To-t.At == len(text)+2
}

// statement reads a statement; listed tells whether it stands in a list of statements, as most declarations have to.
func (p *parser) statement(listed bool) *api.Node {
	switch {
	case p.now().Kind == token.Word:
		return p.wordStatement(listed)
	case p.isName("let"):
		return p.variables(listed)
	case p.isSign("{"):
		return p.block()
	case p.isSign(";"):
		return node(api.NEmpty, p.take().At)
	case p.now().Kind == token.Name && p.colonFollows():
		return p.label()
	}
	return p.expression()
}

// wordStatement reads a statement that begins with a reserved word.
func (p *parser) wordStatement(listed bool) *api.Node {
	switch p.now().S {
	case "var":
		return p.variables(true)
	case "const":
		return p.variables(listed)
	case "function":
		return p.functionStatement(listed)
	case "if":
		return p.choice()
	case "while":
		return p.while()
	case "do":
		return p.do()
	case "for":
		return p.loop()
	case "break":
		return p.jump(api.NBreak)
	case "continue":
		return p.jump(api.NContinue)
	case "return":
		return p.back()
	case "throw":
		return p.throw()
	case "switch":
		return p.cases()
	case "try":
		return p.try()
	}
	return p.expression()
}

// variables reads declarations that are a statement.
func (p *parser) variables(allowed bool) *api.Node {
	if !allowed {
		return p.fail()
	}
	n := p.declarations(false)
	p.terminate()
	return n
}

func (p *parser) functionStatement(allowed bool) *api.Node {
	if !allowed {
		return p.fail()
	}
	return p.function(api.FDecl)
}

// expression reads an expression that is a statement.
func (p *parser) expression() *api.Node {
	n := p.comma()
	p.terminate()
	return node(api.NExpr, n.At, n)
}

func (p *parser) label() *api.Node {
	t := p.take()
	p.expect(":")
	n := node(api.NLabel, t.At, p.statement(false))
	n.S = t.S
	return n
}

func (p *parser) block() *api.Node {
	n, _ := p.body()
	return n
}

// body reads a block, or the body of a function, which its directives can make strict.
func (p *parser) body() (n *api.Node, strict bool) {
	n = node(api.NBlock, p.now().At)
	p.expect("{")
	n.Kids, strict = p.statements((*parser).isClose)
	p.expect("}")
	return n, strict
}

// condition reads an expression in parentheses.
func (p *parser) condition() *api.Node {
	p.expect("(")
	n := p.comma()
	p.expect(")")
	return n
}

func (p *parser) choice() *api.Node {
	n := node(api.NIf, p.take().At, p.condition(), p.statement(false))
	if p.acceptWord("else") {
		n.Kids = append(n.Kids, *p.statement(false))
	}
	return n
}

func (p *parser) while() *api.Node {
	return node(api.NWhile, p.take().At, p.condition(), p.statement(false))
}

func (p *parser) do() *api.Node {
	at := p.take().At
	body := p.statement(false)
	if !p.acceptWord("while") {
		return p.fail()
	}
	n := node(api.NDo, at, body, p.condition())
	p.accept(";")
	return n
}

// jump reads a break or continue.
func (p *parser) jump(op int) *api.Node {
	t := p.take()
	n := node(op, t.At)
	if p.now().Kind == token.Name && !p.bars(t.S) {
		n.S = p.take().S
	}
	p.terminate()
	return n
}

// back reads a return.
func (p *parser) back() *api.Node {
	n := node(api.NReturn, p.take().At)
	if !p.isSign(";") && !asi.May(*p.now()) {
		n.Kids = []api.Node{*p.comma()}
	}
	p.terminate()
	return n
}

func (p *parser) throw() *api.Node {
	at := p.take().At
	if p.bars("throw") {
		return p.fail()
	}
	n := node(api.NThrow, at, p.comma())
	p.terminate()
	return n
}

// cases reads a switch.
func (p *parser) cases() *api.Node {
	n := node(api.NSwitch, p.take().At, p.condition())
	p.expect("{")
	other := false
	for !p.accept("}") {
		if p.isWord("default") && !other {
			other = true
		} else if !p.isWord("case") {
			return p.fail()
		}
		n.Kids = append(n.Kids, *p.clause())
	}
	return n
}

// clause reads a case or default of a switch.
func (p *parser) clause() *api.Node {
	t := p.take()
	n := node(api.NCase, t.At)
	if t.S == "default" {
		n.N = 1
	} else {
		n.Kids = []api.Node{*p.comma()}
	}
	p.expect(":")
	l, _ := p.statements((*parser).isClauseEnd)
	n.Kids = append(n.Kids, l...)
	return n
}

func (p *parser) isClauseEnd() bool { return p.isClose() || p.isWord("case", "default") }

func (p *parser) try() *api.Node {
	at := p.take().At
	body := p.block()
	if !p.isWord("catch", "finally") {
		return p.fail()
	}
	handler := p.empty()
	if p.isWord("catch") {
		handler = p.catch()
	}
	final := p.empty()
	if p.acceptWord("finally") {
		final = p.block()
	}
	return node(api.NTry, at, body, handler, final)
}

func (p *parser) catch() *api.Node {
	at := p.take().At
	caught := p.empty()
	if p.accept("(") {
		caught = p.binding()
		p.expect(")")
	}
	return node(api.NCatch, at, caught, p.block())
}
