package scope

import (
	"pantomime/api"
	"pantomime/early"
	"pantomime/tree"
	"reflect"
	"strings"
	"testing"
)

// grower grows source texts that declare a few names and refer to them.
type grower struct {
	chance
	depth int
}

func (g *grower) name() string { return g.one("a", "b", "c", "d", "e", "f", "h", "i", "j") }

// within returns what one of some functions makes one level deeper, or leaf where it is too deep for that.
func (g *grower) within(leaf func() string, l ...func() string) string {
	if g.depth > 3 {
		return leaf()
	}
	g.depth++
	defer func() { g.depth-- }()
	return l[g.below(len(l))]()
}

// some joins up to most texts that grow makes.
func (g *grower) some(most int, between string, grow func() string) string {
	var l []string
	for range g.below(most + 1) {
		l = append(l, grow())
	}
	return strings.Join(l, between)
}

func (g *grower) expression() string {
	return g.within(g.name, g.name, g.name, g.function, g.arrow, g.object, g.operation)
}

func (g *grower) operation() string {
	e := g.expression
	switch g.below(8) {
	case 0:
		return "[" + e() + ", ..." + e() + "]"
	case 1:
		return "(" + e() + ").b[" + e() + "]"
	case 2:
		return "(" + g.assigned() + " = " + e() + ")"
	case 3:
		return "`${" + e() + "}`"
	case 4:
		return g.name() + "++"
	}
	return "(" + e() + ", " + e() + ")"
}

func (g *grower) object() string {
	return "({" + g.one(g.name(), "a: "+g.expression(), "["+g.expression()+"]: "+g.expression()) + ", m" + g.parameters() + g.body() + ", get g() " + g.body() + ", set s(" + g.target() + ") " + g.body() + "})"
}

func (g *grower) function() string {
	return "(function" + g.one(" ", " "+g.name(), "* "+g.name()) + g.parameters() + g.body() + ")"
}

func (g *grower) arrow() string {
	return "(" + g.parameters() + " => " + g.one(g.body(), g.expression()) + ")"
}

func (g *grower) parameters() string {
	return "(" + g.one("", g.name(), g.element(), g.name()+", "+g.element(), g.element()+", ..."+g.target()) + ")"
}

func (g *grower) element() string { return g.target() + g.one("", " = "+g.expression()) }

// target is a target that binds names, and assigned one that may be a member too.
func (g *grower) target() string {
	array := func() string { return "[" + g.some(2, ", ", g.element) + g.one("]", ", ..."+g.name()+"]") }
	object := func() string {
		return "{" + g.one("", g.name()+", ", "k: "+g.element()+", ", "["+g.expression()+"]: "+g.element()+", ") + g.one("", g.name()+" = "+g.expression(), "..."+g.name()) + "}"
	}
	return g.within(g.name, g.name, g.name, g.name, array, object)
}

func (g *grower) assigned() string { return g.one(g.target(), "a.b") }

func (g *grower) body() string { return " { " + g.statements() + " }" }

func (g *grower) statements() string { return g.some(5, " ", g.statement) }

func (g *grower) declarations(kind string) string {
	if kind == "const" {
		return "const " + g.target() + " = " + g.expression()
	}
	return kind + " " + g.one(g.name(), g.target()+" = "+g.expression(), g.name()+", "+g.target()+" = "+g.expression())
}

func (g *grower) statement() string {
	e, s := g.expression, func() string { return g.statements() }
	simple := func() string { return e() + ";" }
	return g.within(simple, simple, simple, simple,
		func() string { return g.declarations(g.one("var", "let", "const")) + ";" },
		func() string { return g.declarations(g.one("let", "const")) + ";" },
		func() string { return "function " + g.name() + g.parameters() + g.body() },
		func() string { return "{ " + s() + " }" },
		func() string { return "if (" + e() + ") { " + s() + " } else " + e() + ";" },
		func() string { return "do { " + s() + " } while (" + e() + ");" },
		func() string { return "while (" + e() + ") var " + g.name() + ";" },
		func() string {
			return "for (" + g.one("var", "let", "const") + " " + g.target() + g.one(" of ", " in ") + e() + ") { " + s() + " }"
		},
		func() string { return "for (" + g.assigned() + g.one(" of ", " in ") + e() + ") { " + s() + " }" },
		func() string {
			return "for (" + g.declarations(g.one("var", "let", "const")) + "; " + e() + "; " + e() + ") { " + s() + " }"
		},
		func() string {
			return "switch (" + e() + ") { case " + e() + ": " + s() + " case " + e() + ": " + s() + " default: " + s() + " }"
		},
		func() string {
			return "try { " + s() + " } catch " + g.one("", "("+g.target()+") ") + "{ " + s() + " } finally { " + s() + " }"
		},
		func() string { return "l: while (" + e() + ") { continue l }" },
	)
}

// TestSearch holds Of and Uses against a search among all nodes.
func TestSearch(t *testing.T) { // P10.1, P10.2, P10.5
	g := &grower{chance: 5}
	held, checked, hops, right, size := 0, 0, 0, 0, 0
	for range 12000 {
		s := g.statements()
		if len(s) > 1500 {
			continue // hardly ever valid
		}
		n := parsed(t, s)
		if _, e := early.Check(n); e != api.OK {
			// Of and Uses only have to end.
			Of(n)
			Uses(n)
			continue
		}
		right++
		before := tree.Copy(n)
		l, u := scopesOf(t, n), usesOf(t, n)
		wantScopes, wantUses := search(&n)
		if told(l) != told(wantScopes) || toldUses(u) != toldUses(wantUses) || !reflect.DeepEqual(u, wantUses) && len(u) > 0 {
			t.Fatalf("%s\n got %s\nwant %s\n got %s\nwant %s", s, told(l), told(wantScopes), toldUses(u), toldUses(wantUses))
		}
		if !reflect.DeepEqual(n, before) {
			t.Fatalf("%s: the argument changed", s)
		}
		consequences(t, s, l, u)
		size = max(size, len(u))
		for _, x := range u {
			hops = max(hops, x.Hops)
			if x.Where == api.AtHeld {
				held++
			}
			if x.Check {
				checked++
			}
		}
	}
	if right < 3000 || held < 3000 || checked < 3000 || hops < 3 || size < 50 {
		t.Errorf("%d valid, %d held, %d checked, %d hops, %d references", right, held, checked, hops, size)
	}
}

// consequences holds what the other functions tell of the scopes and references of a program against these.
func consequences(t *testing.T, source string, l []api.Scope, uses []api.Use) { // P10.5
	t.Helper()
	if !Right(l) {
		t.Fatalf("%s: not consistent: %s", source, told(l))
	}
	for _, u := range uses {
		s, b, ok := Find(l, u.Scope, u.Name)
		if ok != (u.Where != api.AtGlobal) {
			t.Fatalf("%s: Find of %s at %d: %v", source, u.Name, u.At, ok)
		}
		if !ok {
			continue
		}
		x := l[s].Names[b]
		if x.Name != u.Name || x.Kind != u.Kind || x.Slot != u.Slot || x.Held != (u.Where == api.AtHeld) {
			t.Fatalf("%s: %s at %d: %+v", source, u.Name, u.At, x)
		}
		if x.Held && u.Slot >= Slots(l[s]) || !x.Held && u.Slot >= Locals(l, l[s].Func) {
			t.Fatalf("%s: slot of %s at %d", source, u.Name, u.At)
		}
	}
}

func TestDeepAndWide(t *testing.T) { // P10.1, P10.2: as deep as a tree may be, and with many references
	const levels = 40
	s := strings.Repeat("{let a; (()=>{", levels) + "a" + strings.Repeat("})}", levels)
	n := valid(t, s)
	l, u := scopesOf(t, n), usesOf(t, n)
	last := u[len(u)-1]
	if len(l) != 1+2*levels || len(u) != levels+1 || last.Scope != 2*levels || last.Hops != 0 || !Right(l) {
		t.Errorf("%d scopes, %d references, %+v", len(l), len(u), last)
	}
	s = "let o; " + strings.Repeat("{let a; (()=>{a;", levels) + "o" + strings.Repeat("})}", levels)
	u = usesOf(t, valid(t, s))
	if last := u[len(u)-1]; last.Hops != levels || last.Slot != 0 || last.Where != api.AtHeld || !last.Check {
		t.Errorf("%+v", last)
	}
	s = "let a;" + strings.Repeat("a;", 30000)
	if u := usesOf(t, valid(t, s)); len(u) != 30001 || u[30000] != (api.Use{At: 6 + 2*29999, Slot: 1, Kind: api.BLet, Name: "a"}) {
		t.Errorf("%d references", len(u))
	}
}
