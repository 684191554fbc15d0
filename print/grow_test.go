package print

import "pantomime/api"

// chance is a row of numbers that is the same at each run of the tests.
type chance uint32

func (c *chance) below(n int) int {
	*c = *c*1664525 + 1013904223
	return int(*c>>8) % n
}

func (c *chance) one(l ...string) string { return l[c.below(len(l))] }

// anyNode grows a node of random fields, hardly ever a well-formed one.
func (c *chance) anyNode(depth int) api.Node {
	n := api.Node{Op: c.below(70) - 2, At: c.below(9) - 1, N: []int{0, 0, 0, 1, 2, 3, -1, 130, 255}[c.below(9)], M: c.below(3) - 1, S: c.one("", "a", "+", "??", "||", "=", "++", "-")}
	if c.below(2) == 0 {
		n.Op = []int{api.NProgram, api.NExpr, api.NName, api.NBinary, api.NLogic, api.NCall, api.NNew, api.NDot, api.NIndex, api.NChain, api.NEmpty}[c.below(11)]
	}
	for range c.below(4) * min(1, depth) {
		n.Kids = append(n.Kids, c.anyNode(depth-1))
	}
	return n
}

// grower grows trees such as the parser makes.
type grower struct {
	chance
	depth int
	gen   bool // in a generator, where yield is an operator
}

func (g *grower) name() string {
	if g.gen {
		return g.one("a", "b", "of", "get", "set")
	}
	return g.one("a", "b", "of", "yield", "functions")
}

// some returns up to most nodes that grow makes.
func (g *grower) some(most int, grow func() api.Node) []api.Node {
	var l []api.Node
	for range g.below(most + 1) {
		l = append(l, grow())
	}
	return l
}

// within calls one of some functions one level deeper, or leaf where it is too deep for that.
func (g *grower) within(leaf func() api.Node, l ...func() api.Node) api.Node {
	if g.depth > 6 {
		return leaf()
	}
	g.depth++
	defer func() { g.depth-- }()
	return l[g.below(len(l))]()
}

func (g *grower) program() api.Node {
	n := of(api.NProgram, 0, "", g.statements()...)
	if strict(n.Kids) {
		n.N = 1
	}
	return n
}

func (g *grower) leaf() api.Node {
	switch g.below(9) {
	case 0:
		return of(api.NNum, []int{0, 1, 31, api.MaxInt}[g.below(4)], "")
	case 1:
		return text(g.one("", "a", "\"\\", "\n\r\t\x00", "\x7f\xff`${", "'", "use strict"))
	case 2:
		return of(api.NBool, g.below(2), "")
	case 3:
		return of(g.pick(api.NNull, api.NThis), 0, "")
	}
	return name(g.name())
}

func (g *grower) pick(l ...int) int { return l[g.below(len(l))] }

func (g *grower) expression() api.Node {
	return g.within(g.leaf, g.leaf, g.literal, g.literal, g.operation, g.operation, g.operation, g.link, g.link, g.chain, g.assign, g.function, g.arrow, g.yield)
}

func (g *grower) literal() api.Node {
	switch g.below(3) {
	case 0:
		return of(api.NArray, 0, "", g.some(3, g.element)...)
	case 1:
		return of(api.NObject, 0, "", g.some(3, g.property)...)
	}
	n := of(api.NTemplate, 0, "", text(g.one("", "a", "$`\"\\\n", "${")))
	for range g.below(3) {
		n.Kids = append(n.Kids, g.expression(), text(g.one("", "}", "\xff")))
	}
	return n
}

func (g *grower) element() api.Node {
	if g.below(4) == 0 {
		return of(api.NHole, 0, "")
	}
	return g.argument()
}

func (g *grower) argument() api.Node {
	if g.below(4) == 0 {
		return of(api.NSpread, 0, "", g.expression())
	}
	return g.expression()
}

// keyed returns a node that has a key.
func (g *grower) keyed(op, n int) api.Node {
	switch g.below(4) {
	case 0:
		return api.Node{Op: op, N: n, M: 1, Kids: []api.Node{g.expression()}}
	case 1:
		return of(op, n, "", of(api.NNum, g.below(3), ""))
	}
	return of(op, n, "", text(g.one("a", "if", "get", "set", "a b", "", "1", "let", "yield")))
}

func (g *grower) property() api.Node {
	kind := g.below(6)
	switch kind {
	case api.PropShort:
		return of(api.NProp, kind, "", text(g.name()))
	case api.PropSpread:
		return of(api.NProp, kind, "", g.expression())
	}
	n := g.keyed(api.NProp, kind)
	switch kind {
	case api.PropValue:
		n.Kids = append(n.Kids, g.expression())
	case api.PropGet:
		n.Kids = append(n.Kids, g.functionOf(api.FGet, "", 0))
	case api.PropSet:
		n.Kids = append(n.Kids, g.functionOf(api.FSet, "", 1))
	case api.PropMethod:
		n.Kids = append(n.Kids, g.functionOf(g.pick(api.FMethod, api.FMethod|api.FGen), "", -1))
	}
	return n
}

func (g *grower) operation() api.Node {
	switch g.below(8) {
	case 0:
		return of(api.NUnary, 0, g.one("delete", "void", "typeof", "+", "-", "+", "-", "!", "~"), g.expression())
	case 1:
		return of(api.NUpdate, g.below(2), g.one("++", "--"), g.simple())
	case 2:
		return of(api.NLogic, 0, g.one("??", "||", "&&"), g.expression(), g.expression())
	case 3:
		return of(api.NCond, 0, "", g.expression(), g.expression(), g.expression())
	case 4:
		return of(api.NSeq, 0, "", append(g.some(2, g.expression), g.expression(), g.expression())...)
	}
	return of(api.NBinary, 0, g.one("|", "^", "&", "==", "!=", "===", "!==", "<", ">", "<=", ">=", "instanceof", "in", "in", "<<", ">>", "+", "-", "*", "/", "%"), g.expression(), g.expression())
}

func (g *grower) yield() api.Node {
	switch {
	case !g.gen:
		return g.leaf()
	case g.below(3) == 0:
		return of(api.NYield, 0, "")
	}
	return of(api.NYield, g.below(2), "", g.expression())
}

// linkOf returns a call or a member of n.
func (g *grower) linkOf(n api.Node) api.Node {
	switch g.below(3) {
	case 0:
		return of(api.NDot, 0, g.one("a", "if", "let"), n)
	case 1:
		return of(api.NIndex, 0, "", n, g.expression())
	}
	return of(api.NCall, 0, "", append([]api.Node{n}, g.some(2, g.argument)...)...)
}

func (g *grower) link() api.Node {
	if g.below(3) == 0 {
		return of(api.NNew, 0, "", append([]api.Node{g.expression()}, g.some(2, g.argument)...)...)
	}
	return g.linkOf(g.expression())
}

func (g *grower) chain() api.Node {
	n := g.linkOf(g.expression())
	n.N = 1
	for range g.below(3) {
		n = g.linkOf(n)
		n.N = g.below(2)
	}
	return of(api.NChain, 0, "", n)
}

func (g *grower) simple() api.Node {
	switch g.below(4) {
	case 0:
		return of(api.NDot, 0, "c", g.expression())
	case 1:
		return of(api.NIndex, 0, "", g.expression(), g.expression())
	}
	return name(g.name())
}

func (g *grower) assign() api.Node {
	if g.below(2) == 0 {
		return of(api.NAssign, 0, g.one("+=", "-=", "??=", "&&=", "<<="), g.simple(), g.expression())
	}
	return of(api.NAssign, 0, "=", g.target(g.simple), g.expression())
}

// binding grows a target that binds names.
func (g *grower) binding() api.Node {
	return g.target(func() api.Node { return name(g.name()) })
}

// target grows a target whose simple targets leaf makes.
func (g *grower) target(leaf func() api.Node) api.Node {
	array := func() api.Node {
		l := g.some(3, func() api.Node {
			if g.below(4) == 0 {
				return of(api.NHole, 0, "")
			}
			return g.withDefault(g.target(leaf))
		})
		if g.below(3) == 0 {
			l = append(l, of(api.NRest, 0, "", g.target(leaf)))
		}
		return of(api.NArrPat, 0, "", l...)
	}
	object := func() api.Node {
		l := g.some(2, func() api.Node {
			n := g.keyed(api.NPatProp, 0)
			n.Kids = append(n.Kids, g.withDefault(g.target(leaf)))
			return n
		})
		if g.below(3) == 0 {
			l = append(l, of(api.NRest, 0, "", leaf()))
		}
		return of(api.NObjPat, 0, "", l...)
	}
	return g.within(leaf, leaf, leaf, array, object)
}

func (g *grower) withDefault(n api.Node) api.Node {
	if g.below(3) > 0 {
		return n
	}
	return of(api.NDefault, 0, "", n, g.expression())
}

func (g *grower) function() api.Node {
	return g.functionOf(g.pick(0, api.FGen), g.one("", "f", "yield"), -1)
}

func (g *grower) arrow() api.Node {
	if g.below(2) == 0 {
		return g.functionOf(api.FArrow, "", -1)
	}
	outer := g.gen
	g.gen = false
	n := of(api.NFunc, api.FArrow|api.FShort, "", g.parameters(-1), g.expression())
	g.gen = outer
	return n
}

// functionOf grows a function with certain bits and a number of parameters, or any number of them for -1.
func (g *grower) functionOf(bits int, name string, count int) api.Node {
	outer := g.gen
	g.gen = bits&api.FGen != 0
	body := of(api.NBlock, 0, "", g.statements()...)
	if strict(body.Kids) {
		bits |= api.FStrict
	}
	n := of(api.NFunc, bits, name, g.parameters(count), body)
	g.gen = outer
	return n
}

func (g *grower) parameters(count int) api.Node {
	n := of(api.NParams, 0, "")
	for range max(count, 0) {
		n.Kids = append(n.Kids, g.withDefault(g.binding()))
	}
	if count < 0 {
		n.Kids = g.some(3, func() api.Node { return g.withDefault(g.binding()) })
		if g.below(4) == 0 {
			n.Kids = append(n.Kids, of(api.NRest, 0, "", g.binding()))
		}
	}
	return n
}

// statements grows a list of statements, among which declarations may be.
func (g *grower) statements() []api.Node {
	if g.depth > 6 {
		return nil
	}
	return g.some(3, func() api.Node {
		switch g.below(6) {
		case 0:
			return g.variables(g.below(3))
		case 1:
			return g.functionOf(g.pick(api.FDecl, api.FDecl|api.FGen), g.one("f", "yield"), -1)
		case 2:
			return of(api.NExpr, 0, "", g.leaf())
		}
		return g.statement()
	})
}

func (g *grower) variables(kind int) api.Node {
	n := of(api.NVar, kind, "", of(api.NDecl, 0, "", g.binding(), g.expression()))
	if g.below(3) == 0 {
		n.Kids = append(n.Kids, of(api.NDecl, 0, "", name(g.name())))
	}
	return n
}

func (g *grower) empty() api.Node { return of(api.NEmpty, 0, "") }

// statement grows a statement that is no declaration but var.
func (g *grower) statement() api.Node {
	simple := func() api.Node { return of(api.NExpr, 0, "", g.expression()) }
	declared := func() api.Node { return g.variables(0) }
	return g.within(g.empty, g.empty, simple, simple, simple, declared, g.block, g.condition, g.loop, g.each, g.jump, g.choices, g.try)
}

func (g *grower) block() api.Node { return of(api.NBlock, 0, "", g.statements()...) }

func (g *grower) condition() api.Node {
	switch g.below(4) {
	case 0:
		return of(api.NWhile, 0, "", g.expression(), g.statement())
	case 1:
		return of(api.NDo, 0, "", g.statement(), g.expression())
	case 2:
		return of(api.NLabel, 0, g.one("l", "yield", "of"), g.statement())
	}
	n := of(api.NIf, 0, "", g.expression(), g.statement())
	if g.below(2) == 0 && !isOpen(n.Kids[1]) {
		n.Kids = append(n.Kids, g.statement())
	}
	return n
}

func (g *grower) loop() api.Node {
	clause := func() api.Node {
		if g.below(3) == 0 {
			return g.empty()
		}
		return g.expression()
	}
	first := g.empty()
	switch g.below(3) {
	case 0:
		first = of(api.NExpr, 0, "", g.expression())
	case 1:
		first = g.variables(g.below(3))
	}
	return of(api.NFor, 0, "", first, clause(), clause(), g.statement())
}

func (g *grower) each() api.Node {
	left := g.target(g.simple)
	if g.below(2) == 0 {
		left = of(api.NVar, g.below(3), "", of(api.NDecl, 0, "", g.binding()))
	}
	return of(g.pick(api.NForIn, api.NForOf), 0, "", left, g.expression(), g.statement())
}

func (g *grower) jump() api.Node {
	switch g.below(3) {
	case 0:
		return of(g.pick(api.NBreak, api.NContinue), 0, g.one("", "l", "let", "yield"))
	case 1:
		return of(api.NThrow, 0, "", g.expression())
	}
	return of(api.NReturn, 0, "", g.some(1, g.expression)...)
}

func (g *grower) choices() api.Node {
	n := of(api.NSwitch, 0, "", g.expression())
	other := g.below(3)
	for i := range g.below(3) {
		if i == other {
			n.Kids = append(n.Kids, of(api.NCase, 1, "", g.statements()...))
		} else {
			n.Kids = append(n.Kids, of(api.NCase, 0, "", append([]api.Node{g.expression()}, g.statements()...)...))
		}
	}
	return n
}

func (g *grower) try() api.Node {
	n := of(api.NTry, 0, "", g.block(), g.empty(), g.empty())
	handled := g.below(3)
	if handled != 0 {
		n.Kids[2] = g.block()
	}
	if handled != 1 {
		caught := g.empty()
		if g.below(2) == 0 {
			caught = g.binding()
		}
		n.Kids[1] = of(api.NCatch, 0, "", caught, g.block())
	}
	return n
}
