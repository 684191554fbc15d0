package print

import (
	"pantomime/api"
	"pantomime/tree"
	"reflect"
	"strings"
	"testing"
)

// leveled are expressions by their precedence levels, as the document has them.
func leveled() map[int][]api.Node {
	e := api.Node{}
	at := map[int][]api.Node{
		0:  {of(api.NSeq, 0, "", e, e), of(api.NSeq, 0, "")},
		1:  {of(api.NAssign, 0, "="), of(api.NAssign, 0, "+=", e, e), of(api.NYield, 0, ""), of(api.NYield, 1, "", e), of(api.NFunc, api.FArrow, ""), of(api.NFunc, api.FArrow|api.FShort|api.FStrict, "", e, e), of(api.NFunc, -2, "a")},
		2:  {of(api.NCond, 0, ""), of(api.NCond, 1, "?", e, e, e)},
		14: {of(api.NUnary, 0, "-"), of(api.NUnary, 0, "typeof", e), of(api.NUnary, 0, ""), of(api.NUpdate, 1, "++"), of(api.NUpdate, 1, "", e)},
		15: {of(api.NUpdate, 0, "++"), of(api.NUpdate, 2, "--", e), of(api.NUpdate, -1, "")},
		16: {of(api.NDot, 0, "a"), of(api.NIndex, 1, "", e, e), of(api.NCall, 0, ""), of(api.NCall, 1, "", e, e), of(api.NChain, 0, "")},
		17: {of(api.NNew, 0, ""), of(api.NNew, 0, "", e, e)},
		18: {of(api.NNum, 0, ""), of(api.NText, 0, "a"), of(api.NBool, 0, ""), of(api.NNull, 0, ""), name("a"), of(api.NThis, 0, ""), of(api.NTemplate, 0, ""), of(api.NArray, 0, "", e), of(api.NObject, 0, ""), of(api.NFunc, 0, ""), of(api.NFunc, api.FGen, "a"), of(api.NFunc, api.FMethod, ""), of(api.NFunc, api.FGet|api.FStrict, ""), of(api.NFunc, api.FSet, ""), of(api.NLogic, 0, "+"), of(api.NLogic, 0, ""), of(api.NLogic, 0, "|"), of(api.NLogic, 0, "="), of(api.NBinary, 0, "&&"), of(api.NBinary, 0, "??"), of(api.NBinary, 0, "||", e, e), of(api.NBinary, 0, ""), of(api.NBinary, 0, ">>>"), of(api.NBinary, 0, "+ ")},
	}
	for i, operators := range []string{"??", "||", "&&"} {
		at[3+i] = []api.Node{of(api.NLogic, 0, operators), of(api.NLogic, 1, operators, e, e)}
	}
	for i, operators := range []string{"|", "^", "&", "== != === !==", "< > <= >= instanceof in", "<< >>", "+ -", "* / %"} {
		for _, s := range strings.Fields(operators) {
			at[6+i] = append(at[6+i], of(api.NBinary, 0, s), of(api.NBinary, 1, s, e, e))
		}
	}
	return at
}

// holder is a parent with the levels that it requires at the indices from 0 on; the last one holds for all that follow.
type holder struct {
	parent   api.Node
	required []int
}

// holders are parents of all kinds but ??, which mixes with no other operator of its kind.
func holders() []holder {
	l := []holder{
		{of(api.NForOf, 0, ""), []int{0, 1, 0}},
		{of(api.NCond, 0, ""), []int{3, 1}},
		{of(api.NLogic, 0, "||"), []int{4, 5, 0}},
		{of(api.NLogic, 0, "&&"), []int{5, 6, 0}},
		{of(api.NLogic, 0, "+"), []int{0}},
		{of(api.NLogic, 0, ""), []int{0}},
		{of(api.NBinary, 0, "&&"), []int{18, 19, 0}},
		{of(api.NBinary, 0, ""), []int{18, 19, 0}},
		{of(api.NUnary, 0, "-"), []int{14}},
		{of(api.NUpdate, 0, "++"), []int{16}},
		{of(api.NUpdate, 1, "++"), []int{16}},
		{of(api.NCall, 1, ""), []int{16, 1}},
		{of(api.NDot, 0, "a"), []int{16, 0}},
		{of(api.NIndex, 0, ""), []int{16, 0}},
		{of(api.NNew, 0, ""), []int{16, 1}},
	}
	for i, operators := range []string{"|", "^", "&", "== != === !==", "< > <= >= instanceof in", "<< >>", "+ -", "* / %"} {
		for _, s := range strings.Fields(operators) {
			l = append(l, holder{of(api.NBinary, 0, s), []int{6 + i, 7 + i, 0}})
		}
	}
	for _, op := range []int{api.NSeq, api.NDecl, api.NDefault, api.NAssign, api.NArray, api.NSpread, api.NProp, api.NPatProp, api.NYield, api.NFunc} {
		l = append(l, holder{of(op, 0, ""), []int{1}})
	}
	for _, op := range []int{0, -1, api.NProgram, api.NVar, api.NParams, api.NBlock, api.NEmpty, api.NExpr, api.NIf, api.NFor, api.NForIn, api.NWhile, api.NDo, api.NReturn, api.NThrow, api.NTry, api.NCatch, api.NSwitch, api.NCase, api.NLabel, api.NNum, api.NName, api.NTemplate, api.NObject, api.NHole, api.NChain, api.NArrPat, api.NObjPat, api.NRest, api.PBinary, 1000} {
		l = append(l, holder{of(op, 0, ""), []int{0}})
	}
	return l
}

func TestLevels(t *testing.T) { // P9.2
	for level, kids := range leveled() {
		for _, kid := range kids {
			for _, h := range holders() {
				for i := range 5 {
					want := level < h.required[min(i, len(h.required)-1)] || i == 0 && isLinked(h.parent, kid)
					if Needs(h.parent, kid, i) != want {
						t.Errorf("%s, child %d of %s: not %v", tree.Dump(kid), i, tree.Dump(h.parent), want)
					}
				}
			}
		}
	}
}

// isLinked reports whether kid is a chain or a call that can't begin parent without parentheses.
func isLinked(parent, kid api.Node) bool {
	switch parent.Op {
	case api.NNew:
		return kid.Op == api.NChain || kid.Op == api.NCall
	case api.NCall, api.NDot, api.NIndex:
		return kid.Op == api.NChain
	}
	return false
}

func TestOperandsOfNullish(t *testing.T) { // P9.2
	parent := of(api.NLogic, 0, "??")
	for level, kids := range leveled() {
		for _, kid := range kids {
			mixed := level == 4 || level == 5
			for i, required := range []int{3, 6, 0, 0} {
				if want := level < required || mixed; Needs(parent, kid, i) != want {
					t.Errorf("%s, child %d: not %v", tree.Dump(kid), i, want)
				}
			}
		}
	}
	if Needs(parent, of(api.NBinary, 0, "||"), 0) || Needs(parent, of(api.NLogic, 0, "??"), 0) || !Needs(parent, of(api.NLogic, 0, "||"), -1) || Needs(of(api.NBinary, 0, "??"), of(api.NLogic, 0, "&&"), 2) {
		t.Error("other kinds")
	}
}

func TestChains(t *testing.T) { // P9.2
	chain := of(api.NChain, 0, "", of(api.NDot, 1, "a", name("b")))
	for _, op := range []int{api.NCall, api.NNew, api.NDot, api.NIndex} {
		if parent := of(op, 0, "", chain, chain); !Needs(parent, chain, 0) || Needs(parent, chain, 1) || Needs(parent, chain, 2) {
			t.Errorf("a chain in %s", tree.Dump(parent))
		}
		if !Needs(of(op, 1, ""), of(api.NChain, 0, ""), 0) {
			t.Errorf("a chain of nothing in a node of kind %d", op)
		}
	}
	for _, op := range []int{api.NUnary, api.NUpdate, api.NBinary, api.NTemplate, api.NChain, api.NSpread, api.NArray, api.NExpr, api.NReturn, api.NCond, 0} {
		if Needs(of(op, 0, "+", chain), chain, 0) {
			t.Errorf("a chain in a node of kind %d", op)
		}
	}
}

func TestCallees(t *testing.T) { // P9.2
	created := of(api.NNew, 0, "")
	dot := func(n api.Node) api.Node { return of(api.NDot, 0, "a", n) }
	index := func(n api.Node) api.Node { return of(api.NIndex, 0, "", n, of(api.NCall, 0, "", name("b"))) }
	call := of(api.NCall, 0, "", name("c"))
	chain := of(api.NChain, 0, "", call)
	for _, kid := range []api.Node{call, of(api.NCall, 1, ""), dot(call), index(call), dot(dot(index(call))), index(of(api.NCall, 0, "")), of(api.NIndex, 1, "", dot(call)), dot(of(api.NCall, 0, "", dot(name("d")))), chain} {
		if !Needs(created, kid, 0) || Needs(created, kid, 1) || Needs(created, kid, -1) {
			t.Errorf("the callee %s", tree.Dump(kid))
		}
		for _, op := range []int{api.NDot, api.NIndex, api.NCall, api.NExpr} {
			if kid.Op != api.NChain && Needs(of(op, 0, ""), kid, 0) {
				t.Errorf("%s in a node of kind %d", tree.Dump(kid), op)
			}
		}
	}
	// What is in parentheses itself, and what is no first child, hides a call.
	for _, kid := range []api.Node{name("a"), dot(name("a")), index(name("a")), dot(chain), index(dot(chain)), dot(of(api.NUnary, 0, "-", call)), dot(of(api.NSeq, 0, "", call, call)), dot(of(api.NNew, 0, "", call)), of(api.NNew, 0, "", dot(call)), of(api.NDot, 0, "a"), of(api.NIndex, 0, ""), dot(of(api.NDot, 0, "a")), of(api.NTemplate, 0, "", text(""), call, text("")), of(api.NArray, 0, "", call), dot(of(api.NArray, 0, "", call)), of(api.NDot, 0, "", name("a"), call), dot(of(api.NExpr, 0, "", call)), dot(of(api.NSpread, 0, "", call))} {
		if Needs(created, kid, 0) {
			t.Errorf("the callee %s", tree.Dump(kid))
		}
	}
	deep := call
	for range 1 << 16 {
		deep = dot(deep)
	}
	if !Needs(created, deep, 0) {
		t.Error("a deep callee")
	}
}

func TestNoExpression(t *testing.T) { // P9.2
	for op := -2; op < 200; op++ {
		if op >= api.NNum && op <= api.NObject || op >= api.NUnary && op <= api.NYield || op == api.NFunc {
			continue
		}
		for _, h := range holders() {
			for i := range 3 {
				if kid := of(op, 0, "||", name("a")); Needs(h.parent, kid, i) {
					t.Errorf("%s in %s", tree.Dump(kid), tree.Dump(h.parent))
				}
			}
		}
	}
	for _, bits := range []int{api.FDecl, api.FDecl | api.FArrow, api.FDecl | api.FGen, -1} {
		if Needs(of(api.NUnary, 0, "-"), of(api.NFunc, bits, "a"), 0) {
			t.Errorf("a declaration with bits %d", bits)
		}
	}
}

// TestAnyNodes asks of nodes of random fields.
func TestAnyNodes(t *testing.T) { // P9.1, P9.2, by the rules R1, R2 and R5
	c := chance(4)
	for range 50000 {
		parent, kid := c.anyNode(4), c.anyNode(4)
		before := tree.Copy(of(0, 0, "", parent, kid))
		Needs(parent, kid, c.below(6)-2)
		for _, n := range []api.Node{parent, kid} {
			s, e := Program(n)
			if fits := n.Op == api.NProgram && tree.Right(n); fits != (e == api.OK) || !fits && (s != "" || e != api.ErrForm) {
				t.Errorf("Program(%s): %q %d", tree.Dump(n), s, e)
			}
			s, e = Expr(n)
			if fits := isExpression(n) && tree.Right(n); fits != (e == api.OK) || !fits && (s != "" || e != api.ErrForm) {
				t.Errorf("Expr(%s): %q %d", tree.Dump(n), s, e)
			}
		}
		if !reflect.DeepEqual(of(0, 0, "", parent, kid), before) {
			t.Fatalf("%s: the argument changed", tree.Dump(before))
		}
	}
}

// isExpression reports whether n is of a kind that chapter 4 calls an expression.
func isExpression(n api.Node) bool {
	if n.Op == api.NFunc {
		return n.N&(api.FDecl|api.FGet|api.FSet|api.FMethod) == 0
	}
	return n.Op >= api.NNum && n.Op <= api.NObject || n.Op >= api.NUnary && n.Op <= api.NYield
}
