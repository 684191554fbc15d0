package read

import "strings"

// chance is a row of numbers that is the same at each run of the tests. Its methods grow source texts, most of which are right.
type chance struct {
	state uint32
	depth int
}

func (c *chance) below(n int) int {
	c.state = c.state*1664525 + 1013904223
	return int(c.state>>8) % n
}

func (c *chance) one(l ...string) string { return l[c.below(len(l))] }

func (c *chance) some(most int, between string, grow func() string) string {
	var l []string
	for range c.below(most + 1) {
		l = append(l, grow())
	}
	return strings.Join(l, between)
}

// within calls one of some functions one level deeper, or returns a text if it is too deep for that.
func (c *chance) within(leaf string, l ...func() string) string {
	if c.depth > 5 {
		return leaf
	}
	c.depth++
	defer func() { c.depth-- }()
	return l[c.below(len(l))]()
}

func (c *chance) name() string { return c.one("a", "b", "c", "of", "get", "set", "yield", "_1") }

func (c *chance) leaf() string {
	return c.one("1", "0x1F", "'s'", "this", "null", "true", c.name(), c.name(), c.name())
}

func (c *chance) expression() string {
	return c.within(c.name(), c.leaf, c.leaf, c.brackets, c.brackets, c.operation, c.operation, c.link, c.assign, c.function, c.arrow)
}

func (c *chance) brackets() string {
	switch c.below(6) {
	case 0:
		return "(" + c.expression() + ")"
	case 1:
		return "(" + c.expression() + ", " + c.expression() + ")"
	case 2:
		return "`s${" + c.expression() + "}t${" + c.expression() + "}`"
	case 3:
		return "{" + c.some(3, ",", c.property) + "}"
	}
	return "[" + c.some(3, ",", c.element) + "]"
}

func (c *chance) operation() string {
	switch c.below(9) {
	case 0:
		return c.one("typeof ", "void ", "delete ", "!", "-", "+ ", "~") + c.expression()
	case 1:
		return c.one("++", "--") + c.name()
	case 2:
		return c.name() + "." + c.name() + c.one("++", "--", "\n++a")
	case 3:
		return c.expression() + " ? " + c.expression() + " : " + c.expression()
	case 4:
		return "yield " + c.one("", "* ", "\n") + c.expression()
	}
	return c.expression() + " " + c.one("+", "-", "*", "/", "<", "===", "&", "|", "&&", "||", "??", "in", "instanceof") + " " + c.expression()
}

func (c *chance) link() string {
	switch c.below(6) {
	case 0:
		return c.expression() + "." + c.one("a", "if", "let")
	case 1:
		return c.expression() + "[" + c.expression() + "]"
	case 2:
		return c.expression() + "(" + c.some(3, ",", c.argument) + ")"
	case 3:
		return c.expression() + "?." + c.one("a", "[b]", "(c)")
	case 4:
		return "new " + c.expression()
	}
	return "new " + c.name() + "." + c.name() + "(" + c.some(2, ",", c.argument) + ")"
}

func (c *chance) argument() string { return c.one("", "", "", "...") + c.expression() }

func (c *chance) element() string {
	return c.one("", c.expression(), c.name()+" = "+c.expression(), "..."+c.expression(), c.binding())
}

func (c *chance) assign() string {
	return c.one(c.binding(), c.name(), c.name()+"."+c.name(), "("+c.name()+")") + c.one(" = ", " = ", " += ", " ??= ") + c.expression()
}

func (c *chance) key() string { return c.one("a", "if", "'s'", "1", "get", "["+c.expression()+"]") }

func (c *chance) property() string {
	switch c.below(8) {
	case 0:
		return "..." + c.expression()
	case 1:
		return "get " + c.key() + "() " + c.body()
	case 2:
		return "set " + c.key() + "(" + c.item() + ") " + c.body()
	case 3:
		return c.one("", "*") + c.key() + "(" + c.some(2, ",", c.item) + ") " + c.body()
	case 4:
		return c.name() + " = " + c.expression()
	case 5:
		return c.name()
	}
	return c.key() + ": " + c.expression()
}

// binding grows a name or a pattern that binds names.
func (c *chance) binding() string {
	list := func() string { return "[" + c.some(3, ",", c.item) + c.one("", "", ",", ", ..."+c.name()) + "]" }
	object := func() string {
		return "{" + c.some(2, ",", func() string { return c.one(c.name(), c.name()+" = "+c.expression(), c.key()+": "+c.item()) }) + "}"
	}
	return c.within(c.name(), c.name, c.name, list, object)
}

func (c *chance) item() string { return c.binding() + c.one("", "", " = "+c.expression()) }

func (c *chance) parameters() string { return "(" + c.some(3, ",", c.item) + ")" }

func (c *chance) function() string {
	return c.one("function ", "function* ") + c.one("", "f") + c.parameters() + " " + c.body()
}

func (c *chance) arrow() string {
	return c.one(c.name(), c.parameters()) + " => " + c.one(c.expression(), c.body())
}

func (c *chance) body() string { return "{" + c.one("", "'use strict';") + c.statements() + "}" }

func (c *chance) statements() string { return c.some(2, " ", c.statement) }

func (c *chance) statement() string {
	simple := func() string { return c.expression() + c.one(";", "\n") }
	return c.within(";", simple, simple, c.declared, c.block, c.control, c.loop, c.each, c.jump, c.choices)
}

func (c *chance) declared() string {
	if c.below(3) == 0 {
		return c.one("function ", "function* ") + "f" + c.parameters() + " " + c.body()
	}
	return c.one("var ", "let ", "const ") + c.binding() + " = " + c.expression() + c.one(";", "\n", ", a;")
}

func (c *chance) block() string { return "{" + c.statements() + "}" }

func (c *chance) control() string {
	switch c.below(4) {
	case 0:
		return "if (" + c.expression() + ") " + c.statement() + c.one("", " else "+c.statement())
	case 1:
		return "while (" + c.expression() + ") " + c.statement()
	case 2:
		return "do " + c.statement() + " while (" + c.expression() + ")" + c.one("", ";")
	}
	return c.one("l", "yield") + ": " + c.statement()
}

func (c *chance) loop() string {
	head := c.one("", c.expression(), "var "+c.binding()+" = "+c.expression(), "let a")
	return "for (" + head + ";" + c.one("", c.expression()) + ";" + c.one("", c.expression()) + ") " + c.statement()
}

func (c *chance) each() string {
	left := c.one("var "+c.binding(), "let "+c.binding(), "const "+c.binding(), c.binding(), c.name()+"."+c.name())
	return "for (" + left + c.one(" of ", " in ") + c.expression() + ") " + c.statement()
}

func (c *chance) jump() string {
	return c.one("return", "return "+c.expression(), "throw "+c.expression(), "break", "continue l", "break l") + c.one(";", "\n")
}

func (c *chance) choices() string {
	if c.below(2) == 0 {
		return "switch (" + c.expression() + ") {" + c.some(2, " ", func() string { return "case " + c.expression() + ": " + c.statements() }) + c.one("", " default: "+c.statements()) + "}"
	}
	return "try " + c.block() + c.one(" finally "+c.block(), " catch "+c.block(), " catch ("+c.binding()+") "+c.block()+" finally "+c.block())
}

// broken changes a source text at some places.
func (c *chance) broken(s string) string {
	parts := strings.Fields("a b , , ; ; ( ) [ ] { } = => : ? . ?. ... + ++ * ?? && || in of let yield function if else for return `x` `a${ }b` }c${ get set 1 's' new ! var const case \\ # /* '")
	for range 1 + c.below(3) {
		at := c.below(len(s) + 1)
		to := min(len(s), at+c.below(3))
		s = s[:at] + c.one("", " "+parts[c.below(len(parts))]+" ", "\n") + s[to:]
	}
	return s
}
