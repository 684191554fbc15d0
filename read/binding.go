package read

import "pantomime/api"

// binding reads a name or a pattern that binds names.
func (p *parser) binding() *api.Node {
	switch {
	case p.isFree():
		return p.name()
	case p.isSign("["):
		n := node(api.NArrPat, p.take().At)
		n.Kids = p.list("]", (*parser).arrayItem)
		return n
	case p.isSign("{"):
		n := node(api.NObjPat, p.take().At)
		n.Kids = p.list("}", (*parser).objectItem)
		return n
	}
	return p.fail()
}

// name reads a variable's name.
func (p *parser) name() *api.Node {
	t := p.take()
	return &api.Node{Op: api.NName, At: t.At, S: t.S}
}

// element reads a binding that may have a default.
func (p *parser) element() *api.Node { return p.withDefault(p.binding()) }

// withDefault reads the default of a binding if there is one.
func (p *parser) withDefault(target *api.Node) *api.Node {
	if !p.accept("=") {
		return target
	}
	return node(api.NDefault, target.At, target, p.withIn())
}

// parameter reads an item of a list of parameters.
func (p *parser) parameter() (n *api.Node, last bool) {
	if p.isSign("...") {
		return node(api.NRest, p.take().At, p.binding()), true
	}
	return p.element(), false
}

// arrayItem reads an item of an array pattern.
func (p *parser) arrayItem() (n *api.Node, last bool) {
	if p.isSign(",") {
		return p.hole(), false
	}
	return p.parameter()
}

// hole stands for what is omitted ahead of the comma that is next.
func (p *parser) hole() *api.Node { return node(api.NHole, p.now().At) }

// objectItem reads an item of an object pattern.
func (p *parser) objectItem() (n *api.Node, last bool) {
	t := p.now()
	switch {
	case p.accept("..."):
		if !p.isFree() {
			return p.fail(), true
		}
		return node(api.NRest, t.At, p.name()), true
	case p.isFree() && !p.colonFollows():
		key := &api.Node{Op: api.NText, At: t.At, S: t.S}
		return node(api.NPatProp, t.At, key, p.withDefault(p.name())), false
	}
	key, m := p.key()
	p.expect(":")
	n = node(api.NPatProp, t.At, key, p.element())
	n.M = m
	return n, false
}
