package print

import (
	"pantomime/api"
	"pantomime/literal"
)

// printer writes the text of a tree.
type printer struct {
	levels
	text []byte
	long bool // the text would be too long; what is in text is only a part of it
	head bool // in the init part of a for head, and in no block there
}

// write appends a text.
func (p *printer) write(s string) {
	if len(s) > api.MaxSrc-len(p.text) {
		p.long = true
		return
	}
	p.text = append(p.text, s...)
}

// insert puts a text between what was written up to some place and the rest.
func (p *printer) insert(at int, s string) {
	p.write(s)
	if !p.long {
		copy(p.text[at+len(s):], p.text[at:])
		copy(p.text[at:], s)
	}
}

// put writes parts of n in order: texts as they are, and for each number the child at that index.
func (p *printer) put(n *api.Node, parts ...any) {
	for _, x := range parts {
		switch x := x.(type) {
		case string:
			p.write(x)
		case int:
			p.kid(n, x)
		}
	}
}

// list writes the children of n from an index on, with a text between them.
func (p *printer) list(n *api.Node, from int, between string) {
	for i := from; i < len(n.Kids); i++ {
		if i > from {
			p.write(between)
		}
		p.kid(n, i)
	}
}

// each writes the children of n from an index on, with a text ahead of each and one behind it.
func (p *printer) each(n *api.Node, from int, ahead, behind string) {
	for i := from; i < len(n.Kids); i++ {
		p.put(n, ahead, i, behind)
	}
}

// kid writes the child of n at index i, in parentheses if it has to be.
func (p *printer) kid(n *api.Node, i int) {
	k := &n.Kids[i]
	if !p.needs(n, k, i) && !(p.head && k.Op == api.NBinary && k.S == "in") {
		p.node(k)
		return
	}
	p.write("(")
	p.node(k)
	p.write(")")
}

// apart writes the child of n at index i, in parentheses if a test holds for its text.
func (p *printer) apart(n *api.Node, i int, holds func(text []byte) bool) {
	start := len(p.text)
	p.kid(n, i)
	if holds(p.text[start:]) {
		p.insert(start, "(")
		p.write(")")
	}
}

// node writes a node.
func (p *printer) node(n *api.Node) {
	switch {
	case p.long:
	case n.Op <= api.NLabel:
		p.statement(n)
	case n.Op <= api.NYield:
		p.expression(n)
	default:
		p.pattern(n)
	}
}

// begins reports whether a text begins with another one.
func begins(text []byte, s string) bool {
	return len(text) >= len(s) && string(text[:len(s)]) == s
}

// opensBlock reports whether a text begins as a block does.
func opensBlock(text []byte) bool { return begins(text, "{") }

// opensStatement reports whether a text begins as a block or as the declaration of a function does.
func opensStatement(text []byte) bool {
	const word = "function"
	if opensBlock(text) {
		return true
	}
	name, _ := literal.Name(string(text[:min(len(text), len(word)+1)]), 0)
	return name == word
}
