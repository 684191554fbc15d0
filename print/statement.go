package print

import "pantomime/api"

// statement writes a program, a function, a statement or a part of one.
func (p *printer) statement(n *api.Node) {
	switch n.Op {
	case api.NProgram:
		p.each(n, 0, "", "\n")
	case api.NVar:
		p.variables(n)
		p.write(";")
	case api.NDecl:
		p.list(n, 0, " = ")
	case api.NFunc:
		p.function(n)
	case api.NParams:
		p.list(n, 0, ", ")
	case api.NBlock:
		p.block(n)
	case api.NEmpty:
		p.write(";")
	case api.NExpr:
		p.apart(n, 0, opensStatement)
		p.write(";")
	case api.NFor, api.NForIn, api.NForOf, api.NWhile, api.NDo:
		p.loop(n)
	case api.NBreak:
		p.jump("break", n.S)
	case api.NContinue:
		p.jump("continue", n.S)
	case api.NReturn:
		p.write("return")
		p.each(n, 0, " ", "")
		p.write(";")
	case api.NThrow:
		p.put(n, "throw ", 0, ";")
	case api.NLabel:
		p.put(n, n.S, ": ", 0)
	default:
		p.branches(n)
	}
}

// branches writes a statement that chooses among others, or a part of one.
func (p *printer) branches(n *api.Node) {
	switch n.Op {
	case api.NIf:
		p.put(n, "if (", 0, ") ", 1)
		p.each(n, 2, " else ", "")
	case api.NTry:
		p.put(n, "try ", 0)
		p.optional(n, 1, " catch ", "")
		p.optional(n, 2, " finally ", "")
	case api.NCatch:
		p.optional(n, 0, "(", ") ")
		p.kid(n, 1)
	case api.NSwitch:
		p.put(n, "switch (", 0, ") {")
		p.each(n, 1, " ", "")
		p.write(" }")
	case api.NCase:
		p.clause(n)
	}
}

// clause writes a clause of a switch.
func (p *printer) clause(n *api.Node) {
	first := 0
	if n.N == 1 {
		p.write("default:")
	} else {
		p.put(n, "case ", 0, ":")
		first = 1
	}
	p.each(n, first, " ", "")
}

// optional writes the child of n at index i between two texts, and nothing at all for an NEmpty.
func (p *printer) optional(n *api.Node, i int, ahead, behind string) {
	if n.Kids[i].Op != api.NEmpty {
		p.put(n, ahead, i, behind)
	}
}

// variables writes declarations without the semicolon behind them.
func (p *printer) variables(n *api.Node) {
	words := [...]string{"var ", "let ", "const "}
	p.write(words[n.N])
	p.list(n, 0, ", ")
}

// jump writes a break or continue.
func (p *printer) jump(word, label string) {
	p.write(word)
	if label != "" {
		p.write(" ")
		p.write(label)
	}
	p.write(";")
}

// loop writes a loop.
func (p *printer) loop(n *api.Node) {
	switch n.Op {
	case api.NFor:
		p.write("for (")
		p.head = true
		p.start(n)
		p.head = false // as it was, because a statement in a for head stands in a block there
		p.write("; ")
		p.optional(n, 1, "", "")
		p.write("; ")
		p.optional(n, 2, "", "")
		p.put(n, ") ", 3)
	case api.NForIn:
		p.write("for (")
		p.start(n)
		p.put(n, " in ", 1, ") ", 2)
	case api.NForOf:
		p.write("for (")
		p.start(n)
		p.put(n, " of ", 1, ") ", 2)
	case api.NWhile:
		p.put(n, "while (", 0, ") ", 1)
	case api.NDo:
		p.put(n, "do ", 0, " while (", 1, ");")
	}
}

// start writes what a for head begins with, without the semicolon of a statement.
func (p *printer) start(n *api.Node) {
	switch first := &n.Kids[0]; first.Op {
	case api.NEmpty:
	case api.NVar:
		p.variables(first)
	case api.NExpr:
		p.kid(first, 0)
	default:
		p.kid(n, 0)
	}
}

// block writes a block, in which the for head around it matters no more.
func (p *printer) block(n *api.Node) {
	outer := p.head
	p.head = false
	p.write("{")
	p.each(n, 0, " ", "")
	p.write(" }")
	p.head = outer
}

// function writes a function that is not the function of a property.
func (p *printer) function(n *api.Node) {
	switch {
	case n.N&api.FShort != 0:
		p.put(n, "(", 0, ") => ")
		p.apart(n, 1, opensBlock)
	case n.N&api.FArrow != 0:
		p.put(n, "(", 0, ") => ", 1)
	default:
		p.write("function")
		if n.N&api.FGen != 0 {
			p.write("*")
		}
		if n.S != "" {
			p.write(" ")
			p.write(n.S)
		}
		p.signature(n)
	}
}

// signature writes the parameters and the body of a function that is no arrow function.
func (p *printer) signature(n *api.Node) { p.put(n, "(", 0, ") ", 1) }
