package labels

import (
	"pantomime/api"
	"pantomime/read"
	"pantomime/tree"
	"reflect"
	"testing"
)

// statement is the tree of the one statement of a source text.
func statement(t *testing.T, s string) api.Node {
	t.Helper()
	n, at, e := read.Program("function f() { " + s + " }")
	if e != api.OK {
		t.Fatalf("%q: not parsed: %d at %d", s, e, at)
	}
	return n.Kids[0].Kids[1].Kids[0]
}

func TestEnds(t *testing.T) { // P13.2
	for _, s := range []string{
		"return", "return x", "throw x", "break", "break a", "continue", "continue a",
		"{ return }", "{ x; return; y }", "{ { { break } } }", "{ if (x) return; throw y }",
		"if (x) return; else throw y", "if (x) { y; return } else { break }", "if (x) if (y) return; else throw z; else continue",
		"try { } finally { return }", "try { x } catch (e) { } finally { throw y }", "try { return } finally { }", "try { return } catch (e) { throw x }", "try { return } catch { break } finally { x }", "try { return } catch { return } finally { return }", "try { try { throw x } catch { return } } finally { }",
	} {
		if !Ends(statement(t, s)) {
			t.Errorf("%s doesn't end", s)
		}
	}
	for _, s := range []string{
		"x", ";", "{ }", "{ x; y }", "var x = 1", "(function () { return })", "function g() { return }",
		"if (x) return", "if (x) return; else y", "if (x) y; else return", "if (x) y; else z", "if (x) return; else if (y) return",
		"while (true) { return }", "for (;;) { }", "for (;;) return", "do { return } while (x)", "for (x in y) return", "for (x of y) throw z",
		"switch (x) { default: return }", "switch (x) { }", "a: return", "a: { break a }", "{ a: return }",
		"try { } catch { return }", "try { return } catch { }", "try { return } catch { } finally { x }", "try { } catch { } finally { }", "try { } finally { }", "try { x } catch (e) { return } finally { y }",
	} {
		if Ends(statement(t, s)) {
			t.Errorf("%s ends", s)
		}
	}
}

func TestEndsOfAnyNode(t *testing.T) { // P13.2
	out, on, none := api.Node{Op: api.NReturn}, api.Node{Op: api.NExpr}, api.Node{Op: api.NEmpty}
	with := func(op int, kids ...api.Node) api.Node { return api.Node{Op: op, Kids: kids} }
	for i, n := range []api.Node{
		{Op: api.NBreak, At: -1, N: 5, S: "1", Kids: []api.Node{on}}, with(api.NReturn, on, on), with(api.NThrow),
		with(api.NBlock, api.Node{Op: 99}, out), with(api.NIf, on, out, out), with(api.NIf, api.Node{}, out, out),
		with(api.NTry, on, on, out), with(api.NTry, out, none, on), with(api.NTry, out, with(api.NEmpty, on), on), with(api.NTry, out, with(api.NEmpty, on, on), on),
		with(api.NTry, out, with(api.NCatch, none, out), none), with(api.NTry, out, with(api.NBlock, on, out), on), with(api.NTry, out, with(99, on, out), on), with(api.NTry, api.Node{}, api.Node{}, out),
	} {
		if !Ends(n) {
			t.Errorf("node %d doesn't end", i)
		}
	}
	for i, n := range []api.Node{
		{}, {Op: 99}, {Op: -api.NReturn}, {Op: api.PReturn}, {Op: api.PBreak}, with(api.NProgram, out), with(api.NFunc, out, out), with(api.NCatch, none, out), with(api.NCase, out), with(api.NLabel, out), with(api.NYield, out), with(api.NSeq, out),
		with(api.NBlock), with(api.NBlock, on), with(api.NIf), with(api.NIf, out, out), with(api.NIf, out), with(api.NIf, on, out, out, out), with(api.NIf, out, out, on), with(api.NIf, out, on, out),
		with(api.NTry), with(api.NTry, out), with(api.NTry, out, none), with(api.NTry, out, out), with(api.NTry, out, out, out, out), with(api.NTry, on, none, on), with(api.NTry, on, with(api.NCatch, none, out), on),
		with(api.NTry, out, with(api.NCatch, none, on), on), with(api.NTry, out, with(api.NCatch, out), on), with(api.NTry, out, with(api.NCatch, out, out, out), on), with(api.NTry, out, out, on), with(api.NTry, out, with(api.NCatch, out, on), none), with(api.NTry, out, with(api.NCatch), none), with(api.NTry, out, with(api.NBlock, out), none),
	} {
		if Ends(n) {
			t.Errorf("node %d ends", i)
		}
	}
	deep := out
	for range 60000 {
		deep = with(api.NBlock, on, deep)
	}
	if !Ends(deep) {
		t.Error("many blocks don't end")
	}
}

// ending holds Ends against its definition, written as one condition.
func ending(s api.Node) bool {
	is := func(op, count int) bool { return s.Op == op && len(s.Kids) == count }
	kid := func(i int) bool { return ending(s.Kids[i]) }
	some := false
	for i := range s.Kids {
		some = some || s.Op == api.NBlock && kid(i)
	}
	leaves := map[int]bool{api.NReturn: true, api.NThrow: true, api.NBreak: true, api.NContinue: true}
	caught := func(n api.Node) bool { return n.Op == api.NEmpty || len(n.Kids) == 2 && ending(n.Kids[1]) }
	return leaves[s.Op] || some || is(api.NIf, 3) && kid(1) && kid(2) || is(api.NTry, 3) && (kid(2) || kid(0) && caught(s.Kids[1]))
}

func TestEndsOfGrownNodes(t *testing.T) { // P13.2
	c := chance(132)
	count := map[bool]int{}
	for range 2000 {
		n := parsed(t, "function f() { "+c.statements(6)+" }")
		before := tree.Copy(n)
		for _, k := range tree.Walk(n) {
			if Ends(k) != ending(k) {
				t.Fatalf("%s: %v", tree.Dump(k), Ends(k))
			}
			count[Ends(k)]++
		}
		if !reflect.DeepEqual(n, before) {
			t.Fatal("the argument was changed")
		}
		k := c.anyNode(4)
		if Ends(k) != ending(k) {
			t.Fatalf("%s: %v", tree.Dump(k), Ends(k))
		}
	}
	if count[true] < 1000 || count[false] < 1000 {
		t.Error(count)
	}
}

// anyNode grows a node of random kinds, most often one that isn't well-formed.
func (c *chance) anyNode(depth int) api.Node {
	ops := []int{api.NReturn, api.NBreak, api.NBlock, api.NIf, api.NIf, api.NTry, api.NTry, api.NTry, api.NCatch, api.NEmpty, api.NExpr, 0}
	n := api.Node{Op: ops[c.below(len(ops))]}
	counts := []int{3, 3, 3, 2, 2, 1, 0}
	for range counts[c.below(len(counts))] * min(1, depth) {
		n.Kids = append(n.Kids, c.anyNode(depth-1))
	}
	return n
}
