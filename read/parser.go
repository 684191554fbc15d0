package read

import (
	"pantomime/api"
	"pantomime/asi"
	"pantomime/cover"
	"pantomime/token"
	"pantomime/tree"
	"slices"
)

// fault is the first error of a source text; parsing stops by a panic with it, which parse catches.
type fault struct {
	at int
	e  api.Errno
}

// parser reads the tokens of a source text from the left. Its functions hand nodes on by pointers, which keeps what a level of nested brackets takes of the stack small.
type parser struct {
	l    []token.Token
	ends []int // for each token that begins a bracket or an open template piece, the index of the one that ends it
	at   int   // the index of the next token
	gen  bool  // in the parameters or the body of a generator
	deep bool  // a part of the tree that was dropped is too deep

	// What tells whether a default in an object literal may stand, see literal.
	part  int // the index of the token at which what may be a part of a pattern begins
	head  int // the index of the token at which the first expression of a for head begins
	first int // the index of the = of the first default that waits for its literal to be a pattern, or 0
}

func newParser(l []token.Token) *parser {
	return &parser{l: l, ends: pairs(l), part: -1, head: -1}
}

// pairs returns, for each token that begins a bracket or an open template piece, the index of the one that ends it, of whatever kind that is, or 0 if there is none.
func pairs(l []token.Token) []int {
	ends := make([]int, len(l))
	var open []int
	for i, t := range l {
		last := len(open) - 1
		switch {
		case begins(t):
			open = append(open, i)
		case last >= 0 && finishes(t):
			ends[open[last]] = i
			open = open[:last]
		}
	}
	return ends
}

func begins(t token.Token) bool {
	return t.Kind == token.Piece && t.N == 0 && t.Open || is(t, "(", "[", "{")
}

func finishes(t token.Token) bool {
	return t.Kind == token.Piece && t.N == 1 && !t.Open || is(t, ")", "]", "}")
}

// is reports whether t is one of some punctuators.
func is(t token.Token, signs ...string) bool {
	return t.Kind == token.Sign && slices.Contains(signs, t.S)
}

// stop ends the parsing with an error.
func stop(at int, e api.Errno) (none *api.Node) { panic(fault{at, e}) }

// fail ends the parsing because the next token can't stand where it does.
func (p *parser) fail() (none *api.Node) { return stop(p.now().At, api.ErrSyntax) }

// now returns the next token.
func (p *parser) now() *token.Token { return &p.l[p.at] }

// take returns the next token and passes over it.
func (p *parser) take() *token.Token {
	p.at++
	return &p.l[p.at-1]
}

// isSign reports whether the next token is one of some punctuators.
func (p *parser) isSign(signs ...string) bool { return is(*p.now(), signs...) }

// isWord reports whether the next token is one of some words.
func (p *parser) isWord(words ...string) bool {
	t := p.now()
	return t.Kind == token.Word && slices.Contains(words, t.S)
}

// isName reports whether the next token is a certain name.
func (p *parser) isName(name string) bool {
	t := p.now()
	return t.Kind == token.Name && t.S == name
}

// isFree reports whether the next token is a name that can be a variable's.
func (p *parser) isFree() bool {
	t := p.now()
	return t.Kind == token.Name && t.S != "let" && !(p.gen && t.S == "yield")
}

// isEach reports whether the next token tells that the head of a loop goes through what follows.
func (p *parser) isEach() bool { return p.isName("of") || p.isWord("in") }

// isPiece reports whether the next token is a template piece that begins a template (0) or continues one (1).
func (p *parser) isPiece(n int) bool {
	t := p.now()
	return t.Kind == token.Piece && t.N == n
}

// isEnd reports whether the source ends here.
func (p *parser) isEnd() bool { return p.now().Kind == token.End }

// isClose reports whether a block ends here.
func (p *parser) isClose() bool { return p.isSign("}") }

// colonFollows reports whether a colon stands behind the next token.
func (p *parser) colonFollows() bool { return !p.isEnd() && is(p.l[p.at+1], ":") }

// bars reports whether what word ended must end ahead of the next token.
func (p *parser) bars(word string) bool { return asi.Bars(word, *p.now()) }

// accept passes over the next token if it is a certain punctuator.
func (p *parser) accept(sign string) bool {
	if !p.isSign(sign) {
		return false
	}
	p.at++
	return true
}

// expect passes over a punctuator that has to stand here.
func (p *parser) expect(sign string) {
	if !p.accept(sign) {
		p.fail()
	}
}

// acceptWord passes over the next token if it is a certain word.
func (p *parser) acceptWord(word string) bool {
	if !p.isWord(word) {
		return false
	}
	p.at++
	return true
}

// terminate ends a statement.
func (p *parser) terminate() {
	next, ok := asi.Ends(p.l, p.at)
	if !ok {
		p.fail()
	}
	p.at = next
}

// item reads an item of a list; last tells that it has to be the last one, without a comma behind it.
type item func(p *parser) (n *api.Node, last bool)

// list reads items between commas, up to a punctuator, which it passes over.
func (p *parser) list(end string, read item) []api.Node {
	var l []api.Node
	for !p.isSign(end) {
		n, last := read(p)
		l = append(l, *n)
		if last || !p.accept(",") {
			break
		}
	}
	p.expect(end)
	return l
}

// node makes a node with children.
func node(op, at int, kids ...*api.Node) *api.Node {
	n := &api.Node{Op: op, At: at}
	for _, k := range kids {
		n.Kids = append(n.Kids, *k)
	}
	return n
}

// empty stands for a part that is omitted here.
func (p *parser) empty() *api.Node { return node(api.NEmpty, p.now().At) }

// target turns an expression, of which token from is the first, into what an operator assigns to.
func (p *parser) target(n *api.Node, from int, op string) (*api.Node, api.Errno) {
	wrapped := is(p.l[from], "(") && p.ends[from] == p.at-1
	switch {
	case cover.Target(*n):
		return n, api.OK
	case op != "=" || wrapped:
		return nil, api.ErrTarget
	}
	pattern, e := cover.Pattern(*n)
	if e == api.OK && tree.Depth(pattern) > api.MaxDepth {
		// Such a tree is refused in the end. Without what is in the pattern, the patterns around it are converted without a copy of it each.
		p.deep = true
		pattern.Kids = nil
	}
	return &pattern, e
}
