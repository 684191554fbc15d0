package print

import (
	"pantomime/api"
	"pantomime/literal"
	"strconv"
)

// quote writes a string literal.
func (p *printer) quote(s string) {
	if len(s) > api.MaxSrc {
		p.long = true
		return
	}
	p.write(literal.Quote(s))
}

// template writes a template literal.
func (p *printer) template(n *api.Node) {
	p.write("`")
	for i, k := range n.Kids {
		if i%2 == 0 {
			p.piece(k.S)
		} else {
			p.put(n, "${", i, "}")
		}
	}
	p.write("`")
}

// piece writes a text part of a template literal.
func (p *printer) piece(s string) {
	for i := 0; i < len(s) && !p.long; i++ {
		switch c := s[i : i+1]; c {
		case "`", "$":
			p.write("\\")
			p.write(c)
		case `"`:
			p.write(c)
		default:
			quoted := literal.Quote(c)
			p.write(quoted[1 : len(quoted)-1])
		}
	}
}

// array writes an array literal or array pattern. Behind a hole at its end a comma stands, because one that ends the list makes no hole.
func (p *printer) array(n *api.Node) {
	p.write("[")
	p.list(n, 0, ", ")
	if last := len(n.Kids) - 1; last >= 0 && n.Kids[last].Op == api.NHole {
		p.write(",")
	}
	p.write("]")
}

// object writes an object literal or object pattern.
func (p *printer) object(n *api.Node) {
	p.write("{")
	p.list(n, 0, ", ")
	p.write("}")
}

// property writes a property of an object literal.
func (p *printer) property(n *api.Node) {
	switch n.N {
	case api.PropValue:
		p.keyed(n)
	case api.PropShort:
		p.key(n)
	case api.PropSpread:
		p.put(n, "...", 0)
	case api.PropGet:
		p.method(n, "get ")
	case api.PropSet:
		p.method(n, "set ")
	case api.PropMethod:
		if n.Kids[1].N&api.FGen != 0 {
			p.method(n, "*")
		} else {
			p.method(n, "")
		}
	}
}

// keyed writes a key and the value or target behind it.
func (p *printer) keyed(n *api.Node) {
	p.key(n)
	p.put(n, ": ", 1)
}

// method writes a property that is a function.
func (p *printer) method(n *api.Node, ahead string) {
	p.write(ahead)
	p.key(n)
	p.signature(&n.Kids[1])
}

// key writes the key of a property.
func (p *printer) key(n *api.Node) {
	switch k := n.Kids[0]; {
	case n.M == 1:
		p.put(n, "[", 0, "]")
	case k.Op == api.NNum:
		p.write(strconv.Itoa(k.N))
	case isName(k.S):
		p.write(k.S)
	default:
		p.quote(k.S)
	}
}

// isName reports whether s has the form of an identifier.
func isName(s string) bool {
	name, _ := literal.Name(s, 0)
	return s != "" && name == s
}

// pattern writes a binding or assignment pattern or a part of one.
func (p *printer) pattern(n *api.Node) {
	switch n.Op {
	case api.NArrPat:
		p.array(n)
	case api.NObjPat:
		p.object(n)
	case api.NPatProp:
		p.keyed(n)
	case api.NDefault:
		p.list(n, 0, " = ")
	case api.NRest:
		p.put(n, "...", 0)
	}
}
