package read

import (
	"pantomime/api"
	"pantomime/token"
)

func (p *parser) object() *api.Node {
	n := node(api.NObject, p.take().At)
	n.Kids = p.list("}", (*parser).property)
	return n
}

// property reads a property of an object literal.
func (p *parser) property() (n *api.Node, last bool) {
	n = node(api.NProp, p.now().At)
	switch {
	case p.accept("..."):
		n.N = api.PropSpread
		n.Kids = []api.Node{*p.mayBePart()}
	case p.accept("*"):
		p.method(n, api.PropMethod, api.FMethod|api.FGen)
	case p.isName("get") && isKey(p.l[p.at+1]):
		p.take()
		p.method(n, api.PropGet, api.FGet)
	case p.isName("set") && isKey(p.l[p.at+1]):
		p.take()
		p.method(n, api.PropSet, api.FSet)
	default:
		p.keyed(n)
	}
	return n, false
}

// method reads the key and the function of property n.
func (p *parser) method(n *api.Node, property, flags int) {
	p.keyOf(n)
	p.functionOf(n, property, flags)
}

// keyOf reads the key of property n.
func (p *parser) keyOf(n *api.Node) {
	key, m := p.key()
	n.M = m
	n.Kids = []api.Node{*key}
}

// functionOf reads the function of property n behind its key.
func (p *parser) functionOf(n *api.Node, property, flags int) {
	f := node(api.NFunc, n.At)
	f.N = flags
	n.N = property
	n.Kids = append(n.Kids, *p.rest(f))
}

// keyed reads property n, which begins with its key.
func (p *parser) keyed(n *api.Node) {
	free := p.isFree()
	p.keyOf(n)
	switch {
	case p.isSign("("):
		p.functionOf(n, api.PropMethod, api.FMethod)
	case p.accept(":"):
		n.Kids = append(n.Kids, *p.mayBePart())
	case free && p.isSign(",", "}"):
		n.N = api.PropShort
	case free && p.isSign("="):
		p.short(n)
	default:
		p.fail()
	}
}

// short reads the default of property n, which can stand in a pattern alone.
func (p *parser) short(n *api.Node) {
	if p.first == 0 {
		p.first = p.at
	}
	p.take()
	n.N = api.PropShort
	n.Kids = append(n.Kids, *p.withIn())
}

// key reads the key of a property; m is 1 if it is computed.
func (p *parser) key() (n *api.Node, m int) {
	switch {
	case !isKey(*p.now()):
		return p.fail(), 0
	case p.accept("["):
		n = p.withIn()
		p.expect("]")
		return n, 1
	}
	return p.constant(), 0
}

// isKey reports whether a key begins with t.
func isKey(t token.Token) bool {
	switch t.Kind {
	case token.Name, token.Word, token.Text, token.Num:
		return true
	}
	return is(t, "[")
}
