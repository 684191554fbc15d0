package scope

import (
	"math"
	"pantomime/api"
	"reflect"
	"slices"
	"strings"
	"testing"
)

// named returns bindings with names, of which those that end in ^ are captured.
func named(l ...string) []api.Bind {
	var made []api.Bind
	for _, s := range l {
		name, held := strings.CutSuffix(s, "^")
		made = append(made, api.Bind{Name: name, Kind: api.BLet, Held: held})
	}
	return made
}

func TestFind(t *testing.T) { // P10.3
	l := []api.Scope{
		{Up: -1, Names: named("a", "b", "c^")}, {Up: 0, Names: named("d", "a", "a", "d")}, {Up: 0, Names: named("e")}, {Up: 1, Names: named("c", "f")}, {Up: 2},
		{Up: 5, Names: named("g")}, {Up: 7, Names: named("h")}, {Up: math.MaxInt}, {Up: math.MinInt}, {Up: -2, Names: named("i")}, {Up: 9}, {Up: 4, Names: named("", "j")},
	}
	before := slices.Clone(l)
	for _, x := range []struct {
		at   int
		name string
		s, b int
		ok   bool
	}{
		{0, "a", 0, 0, true}, {0, "b", 0, 1, true}, {0, "c", 0, 2, true}, {0, "d", 0, 0, false}, {0, "", 0, 0, false},
		{1, "a", 1, 1, true}, {1, "d", 1, 0, true}, {1, "b", 0, 1, true}, {1, "e", 0, 0, false}, {2, "a", 0, 0, true}, {2, "d", 0, 0, false},
		{3, "c", 3, 0, true}, {3, "a", 1, 1, true}, {3, "b", 0, 1, true}, {3, "e", 0, 0, false}, {4, "e", 2, 0, true}, {4, "c", 0, 2, true}, {4, "A", 0, 0, false},
		// Up leads no further where it isn't a smaller index.
		{5, "g", 5, 0, true}, {5, "a", 0, 0, false}, {6, "h", 6, 0, true}, {6, "g", 0, 0, false}, {7, "a", 0, 0, false}, {8, "a", 0, 0, false}, {9, "i", 9, 0, true}, {9, "a", 0, 0, false}, {10, "i", 9, 0, true}, {10, "a", 0, 0, false},
		{11, "", 11, 0, true}, {11, "j", 11, 1, true}, {11, "e", 2, 0, true}, {11, "b", 0, 1, true},
		{-1, "a", 0, 0, false}, {12, "a", 0, 0, false}, {math.MaxInt, "a", 0, 0, false}, {math.MinInt, "a", 0, 0, false},
	} {
		if s, b, ok := Find(l, x.at, x.name); s != x.s || b != x.b || ok != x.ok {
			t.Errorf("%d %q: %d %d %v, want %d %d %v", x.at, x.name, s, b, ok, x.s, x.b, x.ok)
		}
	}
	for _, at := range []int{0, -1, 1} {
		if s, b, ok := Find(nil, at, "a"); s != 0 || b != 0 || ok {
			t.Errorf("no scopes, %d: %d %d %v", at, s, b, ok)
		}
	}
	if !reflect.DeepEqual(l, before) {
		t.Error("the argument changed")
	}
}

func TestLocals(t *testing.T) { // P10.3
	l := []api.Scope{
		{Func: 1, Names: named("a", "b^", "c")}, {Func: 0, Names: named("a", "a", "a^")}, {Func: 1, Names: named("a^")}, {Func: 2, Kind: 99}, {Func: 1, Names: named("d", "d")}, {Func: -3, Names: named("e")}, {Func: math.MaxInt, Names: named("f", "g", "h")},
	}
	for fn, want := range map[int]int{0: 3, 1: 4, 2: 0, 3: 0, -1: 0, -3: 1, math.MaxInt: 3, math.MinInt: 0} {
		if got := Locals(l, fn); got != want {
			t.Errorf("%d: %d, want %d", fn, got, want)
		}
	}
	if Locals(nil, 0) != 1 || Locals(nil, 1) != 0 {
		t.Error("no scopes")
	}
	for _, x := range []struct {
		names []string
		want  int
	}{{nil, 0}, {[]string{"a"}, 0}, {[]string{"a^"}, 1}, {[]string{"a^", "b", "a^", "c^"}, 3}} {
		if got := Slots(api.Scope{Up: -9, Func: -9, Kind: 99, Names: named(x.names...)}); got != x.want {
			t.Errorf("%v: %d, want %d", x.names, got, x.want)
		}
	}
}

// consistent is a list with two functions, in each of them captured bindings and others.
func consistent() []api.Scope {
	bind := func(name string, kind, slot int) api.Bind { return api.Bind{Name: name, Kind: kind, Slot: slot} }
	held := func(name string, kind, slot int) api.Bind {
		return api.Bind{Name: name, Kind: kind, Slot: slot, Held: true}
	}
	return []api.Scope{
		{Up: -1, Names: []api.Bind{bind("a", api.BLet, 1), held("b", api.BConst, 0), bind("c", api.BVar, 2), held("d", api.BFunc, 1)}},
		{Up: 0, Func: 1, Kind: api.SSelf, At: 5, Names: []api.Bind{bind("f", api.BSelf, 0)}},
		{Up: 1, Func: 1, Kind: api.SFunc, At: 5, Names: []api.Bind{held("a", api.BParam, 0), bind("x", api.BVar, 1), bind("y", api.BFunc, 2)}},
		{Up: 0, Func: 0, Kind: api.SBlock, At: 9, Names: []api.Bind{held("x", api.BLet, 0), bind("a", api.BLet, 3)}},
		{Up: 2, Func: 1, Kind: api.SLoop, At: 9},
		{Up: 4, Func: 1, Kind: api.SCatch, At: 0, Names: []api.Bind{bind("e", api.BCatch, 3), held("z", api.BCatch, 0)}},
		{Up: 2, Func: 7, Kind: api.SFunc, At: 2, Names: []api.Bind{bind("e", api.BParam, 0)}},
		{Up: 3, Func: 0, Kind: api.SBlock, At: math.MaxInt, Names: []api.Bind{bind("g", api.BLet, 4)}},
	}
}

func TestRight(t *testing.T) { // P10.4
	l := consistent()
	if !Right(l) || !reflect.DeepEqual(l, consistent()) {
		t.Fatal("a consistent list")
	}
	for i := range l {
		if !Right(l[:i+1]) {
			t.Errorf("the first %d scopes", i+1)
		}
	}
	if Right(nil) || Right([]api.Scope{}) || Right([]api.Scope{{}}) || Right(l[1:]) || !Right([]api.Scope{{Up: -1}}) {
		t.Error("short lists")
	}
	for name, change := range map[string]func(l []api.Scope){
		"first kind":     func(l []api.Scope) { l[0].Kind = api.SFunc },
		"first up":       func(l []api.Scope) { l[0].Up = 0 },
		"first up -2":    func(l []api.Scope) { l[0].Up = -2 },
		"first function": func(l []api.Scope) { l[0].Func = 1; l[0].Names = nil; l[3].Names[1].Slot = 1; l[7].Names[0].Slot = 2 },
		"first at":       func(l []api.Scope) { l[0].At = -1 },
		"up -1":          func(l []api.Scope) { l[1].Up = -1 },
		"up itself":      func(l []api.Scope) { l[3].Up = 3 },
		"up behind":      func(l []api.Scope) { l[3].Up = 4 },
		"up far":         func(l []api.Scope) { l[3].Up = math.MaxInt },
		"second program": func(l []api.Scope) { l[4].Kind = api.SProgram },
		"kind 6":         func(l []api.Scope) { l[4].Kind = 6 },
		"kind -1":        func(l []api.Scope) { l[4].Kind = -1 },
		"function -1":    func(l []api.Scope) { l[6].Func = -1 },
		"at -1":          func(l []api.Scope) { l[4].At = -1 },
		"at far":         func(l []api.Scope) { l[7].At = math.MinInt },
		"no name":        func(l []api.Scope) { l[2].Names[1].Name = "" },
		"same name":      func(l []api.Scope) { l[2].Names[2].Name = "a" },
		"same name next": func(l []api.Scope) { l[5].Names[1].Name = "e" },
		"this":           func(l []api.Scope) { l[2].Names[0].Kind = api.BThis },
		"binding 8":      func(l []api.Scope) { l[2].Names[0].Kind = 8 },
		"binding -1":     func(l []api.Scope) { l[2].Names[0].Kind = -1 },
		"held":           func(l []api.Scope) { l[2].Names[1].Held = true },
		"not held":       func(l []api.Scope) { l[0].Names[1].Held = false },
		"local 0":        func(l []api.Scope) { l[0].Names[0].Slot = 0 },
		"from 1":         func(l []api.Scope) { l[6].Names[0].Slot = 1 },
		"other function": func(l []api.Scope) { l[6].Func = 1 },
		"other order":    func(l []api.Scope) { l[2].Names[1].Slot, l[2].Names[2].Slot = 2, 1 },
		"scope's own":    func(l []api.Scope) { l[3].Names[1].Slot = 1 },
		"held on":        func(l []api.Scope) { l[3].Names[0].Slot = 2 },
		"one less":       func(l []api.Scope) { l[0].Names = l[0].Names[:2] },
	} {
		l := consistent()
		change(l)
		if Right(l) {
			t.Errorf("%s: %s", name, told(consistent()))
		}
	}
	for name, change := range map[string]func(l []api.Scope){
		"kinds":           func(l []api.Scope) { l[3].Kind = api.SLoop; l[4].Kind = api.SFunc; l[5].Kind = api.SSelf },
		"binding kinds":   func(l []api.Scope) { l[0].Names[0].Kind = api.BSelf; l[5].Names[0].Kind = api.BVar },
		"places":          func(l []api.Scope) { l[0].At = 100; l[7].At = 0 },
		"ups":             func(l []api.Scope) { l[7].Up = 6; l[5].Up = 0 },
		"names elsewhere": func(l []api.Scope) { l[3].Names[1].Name = "e"; l[6].Names[0].Name = "not a name" },
		"a new function":  func(l []api.Scope) { l[6].Func = math.MaxInt },
		"the other way": func(l []api.Scope) {
			l[0].Names[2].Held, l[0].Names[2].Slot = true, 1
			l[0].Names[3].Slot = 2
			l[3].Names[1].Slot = 2
			l[7].Names[0].Slot = 3
		},
	} {
		l := consistent()
		change(l)
		if !Right(l) {
			t.Errorf("%s", name)
		}
	}
}

func TestRightSlots(t *testing.T) { // P10.4: no other number is right for any binding
	for i, s := range consistent() {
		for k, b := range s.Names {
			for _, slot := range []int{-1, 0, 1, 2, 3, 4, 5, math.MaxInt, math.MinInt} {
				l := consistent()
				l[i].Names[k].Slot = slot
				if Right(l) != (slot == b.Slot) {
					t.Errorf("scope %d, binding %d, slot %d", i, k, slot)
				}
			}
		}
	}
}
