package tree

import (
	"math"
	"pantomime/api"
	"reflect"
	"strings"
	"testing"
)

// visit is what Walk yields for one node.
type visit struct {
	depth int
	dump  string
}

func visits(n api.Node) []visit {
	var l []visit
	for depth, k := range Walk(n) {
		l = append(l, visit{depth, Dump(k)})
	}
	return l
}

// preorder is what Walk has to yield.
func preorder(n api.Node, depth int) []visit {
	l := []visit{{depth, Dump(n)}}
	for _, k := range n.Kids {
		l = append(l, preorder(k, depth+1)...)
	}
	return l
}

// anyTrees are trees of random fields, hardly one of them well-formed.
func anyTrees(count int) []api.Node {
	c := chance(7)
	texts := []string{"", "", "x", "+", "=", " 5", "M5", "a b", ")", "(Num)", "%20", "\xff", "0"}
	numbers := []int{0, 0, 0, 1, 2, -1, 5, 10, math.MaxInt, math.MinInt}
	var grow func(depth int) api.Node
	grow = func(depth int) api.Node {
		n := api.Node{Op: c.below(70) - 2, At: c.below(4) - 1, N: numbers[c.below(len(numbers))], M: numbers[c.below(len(numbers))], S: texts[c.below(len(texts))]}
		for range c.below(4) * c.below(depth+1) / 2 {
			n.Kids = append(n.Kids, grow(depth-1))
		}
		return n
	}
	var l []api.Node
	for range count {
		l = append(l, grow(3))
	}
	return l
}

func TestSizeAndDepth(t *testing.T) { // P4.2
	for _, x := range []struct {
		s           string
		size, depth int
	}{
		{"e", 1, 1}, {"(Binary =%2B x e)", 3, 2}, {"(Program (Expr (Binary =%2B x e)) s)", 6, 4}, {"(Program s (Expr (Binary =%2B e (Unary =%2D x))))", 7, 5},
		{"(Array e (Array e e e) e)", 7, 3}, {"(?0)", 1, 1}, {"(?-5 (?99 7 (?1000)) (Num 3))", 4, 3},
	} {
		n := made(t, x.s)
		if size, depth := Size(n), Depth(n); size != x.size || depth != x.depth {
			t.Errorf("%s: %d %d", x.s, size, depth)
		}
	}
	if Size(api.Node{}) != 1 || Depth(api.Node{}) != 1 || Depth(api.Node{Kids: []api.Node{}}) != 1 {
		t.Error("an empty node")
	}
	if n := deep(300); Size(n) != 300 || Depth(n) != 300 {
		t.Error("a deep tree")
	}
}

// spoil changes every field of every node of n where it stands.
func spoil(n *api.Node) {
	for _, k := range places(n) {
		k.Op, k.At, k.N, k.M, k.S = k.Op+1, k.At+1, k.N+1, k.M+1, k.S+"!"
	}
}

func TestCopyAndPlain(t *testing.T) { // P4.2
	for _, n := range append(anyTrees(300), api.Node{Op: api.NBlock, At: 4, Kids: []api.Node{}}, api.Node{Op: api.NBlock, At: -4}) {
		dump, was := Dump(n), Copy(n)
		if !reflect.DeepEqual(was, n) {
			t.Fatalf("Copy of %v: %v", n, was)
		}
		plain := Plain(n)
		if Dump(plain) != dump || !reflect.DeepEqual(was, n) {
			t.Fatalf("Plain of %v: %v", n, plain)
		}
		for _, k := range places(&plain) {
			if k.At != 0 {
				t.Fatalf("Plain of %v: %v", n, plain)
			}
		}
		for _, made := range []api.Node{Copy(n), plain} {
			spoil(&made)
			if !reflect.DeepEqual(was, n) {
				t.Fatalf("%v shares memory with what was made of it", was)
			}
		}
		made := Copy(n)
		made.Kids = append(made.Kids, api.Node{Op: 5})
		if !reflect.DeepEqual(was, n) {
			t.Fatalf("%v changed", was)
		}
	}
}

func TestSame(t *testing.T) { // P4.2
	n := made(t, "(Program (Expr (Binary =%2B x e)) (Var 1 d (Decl x e)) (Break) (Prop 3 M1 =a))")
	if !Same(n, n) || !Same(n, Copy(n)) || !Same(n, Plain(n)) || !Same(api.Node{Kids: []api.Node{}}, api.Node{At: 3}) {
		t.Error("equal trees")
	}
	count := len(places(&n))
	for i := range count {
		other := Copy(n)
		places(&other)[i].At = 99
		if !Same(n, other) || !Same(other, n) {
			t.Errorf("At of node %d", i)
		}
		for what, change := range map[string]func(*api.Node){
			"Op": func(k *api.Node) { k.Op++ }, "N": func(k *api.Node) { k.N-- }, "M": func(k *api.Node) { k.M++ }, "S": func(k *api.Node) { k.S += "x" },
			"one more": func(k *api.Node) { k.Kids = append(k.Kids, api.Node{}) },
			"one less": func(k *api.Node) { k.Kids = append([]api.Node{{}}, k.Kids...) },
		} {
			other := Copy(n)
			change(places(&other)[i])
			if Same(n, other) || Same(other, n) {
				t.Errorf("%s of node %d", what, i)
			}
		}
	}
	if Same(made(t, "(Binary =%2B x e)"), made(t, "(Binary =%2B e x)")) {
		t.Error("another order")
	}
}

func TestWalk(t *testing.T) { // P4.3
	n := made(t, "(Program (Expr (Binary =%2B x e)) s)")
	want := []visit{{0, Dump(n)}, {1, "(Expr (Binary =%2B (Name =x) (Num 1)))"}, {2, "(Binary =%2B (Name =x) (Num 1))"}, {3, "(Name =x)"}, {3, "(Num 1)"}, {1, "(Empty)"}}
	if got := visits(n); !reflect.DeepEqual(got, want) {
		t.Errorf("got %v", got)
	}
	n.At, n.Kids[0].At, n.Kids[0].Kids[0].Kids[1].At = 1, 2, 3
	var ats []int
	for _, k := range Walk(n) {
		ats = append(ats, k.At)
	}
	if !reflect.DeepEqual(ats, []int{1, 2, 0, 0, 3, 0}) {
		t.Errorf("At: %v", ats)
	}
	for _, n := range anyTrees(300) {
		if !reflect.DeepEqual(visits(n), preorder(n, 0)) {
			t.Fatalf("of %s: %v", Dump(n), visits(n))
		}
	}
}

func TestWalkStops(t *testing.T) { // P4.3
	for _, n := range anyTrees(100) {
		all := preorder(n, 0)
		walk := Walk(n)
		for stop := range all {
			var got []visit
			walk(func(depth int, k api.Node) bool {
				got = append(got, visit{depth, Dump(k)})
				return len(got) <= stop
			})
			if !reflect.DeepEqual(got, all[:stop+1]) {
				t.Fatalf("%s, stopped at %d: %v", Dump(n), stop, got)
			}
		}
	}
}

func TestWalkStaysTheSame(t *testing.T) { // P4.3
	n := made(t, "(Program (Expr (Binary =%2B x e)) s)")
	was, want := Copy(n), preorder(n, 0)
	walk := Walk(n)
	pass := func() []visit {
		var l []visit
		for depth, k := range walk {
			l = append(l, visit{depth, Dump(k)})
		}
		return l
	}
	for _, k := range walk {
		last := k
		spoil(&last)
		break
	}
	if !reflect.DeepEqual(n, was) || !reflect.DeepEqual(pass(), want) {
		t.Error("changed by a change of what was yielded")
	}
	spoil(&n)
	for range 2 {
		if got := pass(); !reflect.DeepEqual(got, want) {
			t.Errorf("changed with its argument: %v", got)
		}
	}
}

func TestName(t *testing.T) { // P4.4
	named := map[int]string{}
	for name, op := range kinds() {
		named[op] = name
	}
	if len(named) != 53 {
		t.Fatalf("%d kinds", len(named))
	}
	for op := -300; op < 300; op++ {
		if got := Name(op); got != named[op] {
			t.Errorf("%d: %q, want %q", op, got, named[op])
		}
	}
	if Name(math.MaxInt) != "" || Name(math.MinInt) != "" || Name(api.NHole) != "Hole" || Name(api.PHole) != "" {
		t.Error("Name")
	}
}

func TestDump(t *testing.T) { // P4.4
	for _, x := range []struct {
		n    api.Node
		want string
	}{
		{api.Node{Op: api.NBinary, At: 5, S: "+", Kids: []api.Node{{Op: api.NName, S: "x"}, {Op: api.NNum, N: 1}}}, "(Binary =%2B (Name =x) (Num 1))"},
		{api.Node{Op: api.NBlock}, "(Block)"}, {api.Node{Op: api.NBlock, Kids: []api.Node{}}, "(Block)"}, {api.Node{Op: api.NNum}, "(Num)"}, {api.Node{Op: api.NNum, N: api.MaxInt}, "(Num 9007199254740992)"},
		{api.Node{}, "(?0)"}, {api.Node{Op: -7}, "(?-7)"}, {api.Node{Op: 24, N: -3, M: -4, S: "s"}, "(?24 -3 M-4 =s)"}, {api.Node{Op: 100}, "(?100)"},
		{api.Node{Op: math.MinInt, N: math.MinInt, M: math.MaxInt}, "(?-9223372036854775808 -9223372036854775808 M9223372036854775807)"},
		{api.Node{Op: api.NProp, N: 1, M: 1, S: "a b", Kids: []api.Node{{Op: api.NHole}, {Op: 55, Kids: []api.Node{{Op: api.NThis}}}}}, "(Prop 1 M1 =a%20b (Hole) (?55 (This)))"},
		{api.Node{Op: api.NText, S: "azAZ09_$%=()\n\x00\xff\x7f"}, "(Text =azAZ09_$%25%3D%28%29%0A%00%FF%7F)"}, {api.Node{Op: api.NText, M: 2}, "(Text M2)"},
	} {
		if got := Dump(x.n); got != x.want {
			t.Errorf("got %s, want %s", got, x.want)
		}
	}
	const plain = "abcdefghijklmnopqrstuvwxyzABCDEFGHIJKLMNOPQRSTUVWXYZ0123456789_$"
	const hex = "0123456789ABCDEF"
	for c := range 256 {
		s := string([]byte{byte(c)})
		want := "%" + hex[c/16:c/16+1] + hex[c%16:c%16+1]
		if strings.Contains(plain, s) {
			want = s
		}
		if got := Dump(api.Node{Op: api.NText, S: s + s}); got != "(Text ="+want+want+")" {
			t.Errorf("byte %d: %s", c, got)
		}
	}
}

func TestDumpTellsTheTree(t *testing.T) { // P4.5
	for _, n := range anyTrees(2000) {
		if again := made(t, Dump(n)); !reflect.DeepEqual(again, Plain(n)) {
			t.Fatalf("%v: %s", n, Dump(n))
		}
	}
}

func TestSameAndDump(t *testing.T) { // P4.5
	l := anyTrees(400)
	l = append(l, api.Node{Op: 30, N: 5}, api.Node{Op: 30, M: 5}, api.Node{Op: 30, S: "5"}, api.Node{Op: 30, S: "M5"}, api.Node{Op: 30, S: " 5"}, api.Node{Op: 3, N: 0}, api.Node{Op: -3}, api.Node{Op: 0, N: -3})
	equal := 0
	for _, a := range l {
		for _, b := range append(l, Copy(a), Plain(a)) {
			same := Same(a, b)
			if same != (Dump(a) == Dump(b)) || same != reflect.DeepEqual(Plain(a), Plain(b)) {
				t.Fatalf("%v and %v: %v", a, b, same)
			}
			if same {
				equal++
			}
		}
	}
	if equal < 3*len(l) {
		t.Errorf("%d equal pairs", equal)
	}
}

func TestWalkAndSize(t *testing.T) { // P4.5
	for _, n := range anyTrees(1000) {
		count, greatest := 0, 0
		for depth := range Walk(n) {
			count, greatest = count+1, max(greatest, depth)
		}
		if count != Size(n) || greatest != Depth(n)-1 {
			t.Fatalf("%s: %d %d", Dump(n), count, greatest)
		}
	}
}

func TestVeryDeep(t *testing.T) { // P4.1 to P4.4: all of them end, as deep as the document's bound lets a tree be
	const depth = 1 << 16
	n := deep(depth)
	count := 0
	for at := range Walk(n) {
		if at != count {
			t.Fatal(at)
		}
		count++
	}
	if Right(n) || Size(n) != depth || Depth(n) != depth || count != depth || !Same(Copy(n), Plain(n)) || len(Dump(n)) != (depth-1)*len("(Unary =%21 )")+len("(Num)") {
		t.Error("a very deep tree")
	}
}
