package tree

import (
	"pantomime/api"
	"regexp"
	"strconv"
	"strings"
	"testing"
)

// kinds are the names of the AST kinds, as the document has them.
func kinds() map[string]int {
	return map[string]int{
		"Program": 1, "Var": 2, "Decl": 3, "Func": 4, "Params": 5, "Block": 6, "Empty": 7, "Expr": 8, "If": 9, "For": 10, "ForIn": 11, "ForOf": 12, "While": 13, "Do": 14, "Break": 15, "Continue": 16,
		"Return": 17, "Throw": 18, "Try": 19, "Catch": 20, "Switch": 21, "Case": 22, "Label": 23, "Num": 30, "Text": 31, "Bool": 32, "Null": 33, "Name": 34, "This": 35, "Template": 36, "Array": 37,
		"Object": 38, "Prop": 39, "Hole": 40, "Spread": 41, "Unary": 42, "Update": 43, "Binary": 44, "Logic": 45, "Assign": 46, "Cond": 47, "Seq": 48, "Call": 49, "New": 50, "Dot": 51, "Index": 52,
		"Chain": 53, "Yield": 54, "ArrPat": 60, "ObjPat": 61, "PatProp": 62, "Default": 63, "Rest": 64,
	}
}

// short are trees that the tables of these tests name by a letter.
func short(word string) string {
	switch word {
	case "e": // an expression
		return "(Num 1)"
	case "x": // a target that is an expression too
		return "(Name =x)"
	case "t":
		return "(Text =t)"
	case "s": // a statement
		return "(Empty)"
	case "b":
		return "(Block)"
	case "p":
		return "(Params)"
	case "d":
		return "(Decl (Name =x))"
	case "h":
		return "(Hole)"
	case "r":
		return "(Rest (Name =x))"
	case "a": // a target that is no expression
		return "(ArrPat)"
	case "o":
		return "(ObjPat)"
	case "q": // a default
		return "(Default (Name =x) (Num 1))"
	case "w":
		return "(Spread (Num 1))"
	case "f": // a function that is an expression
		return "(Func (Params) (Block))"
	case "g": // a function that is a statement
		return "(Func 1 =g (Params) (Block))"
	}
	return ""
}

// made reads a tree from the form of Dump, in which a word of short stands for a node.
func made(t *testing.T, s string) api.Node {
	t.Helper()
	words := regexp.MustCompile(`[()]|[^() ]+`).FindAllString(s, -1)
	n, rest := node(t, words)
	if len(rest) > 0 {
		t.Fatalf("%s: left over %v", s, rest)
	}
	return n
}

func node(t *testing.T, words []string) (n api.Node, rest []string) {
	t.Helper()
	if words[0] != "(" {
		return made(t, short(words[0])), words[1:]
	}
	op, known := kinds()[words[1]]
	if !known {
		var err error
		if op, err = strconv.Atoi(strings.TrimPrefix(words[1], "?")); err != nil {
			t.Fatalf("no kind: %s", words[1])
		}
	}
	n.Op = op
	for rest = words[2:]; rest[0] != ")"; {
		switch c := rest[0][0]; {
		case c == '=':
			n.S = unescaped(rest[0][1:])
		case c == 'M':
			n.M, _ = strconv.Atoi(rest[0][1:])
		case c == '-' || '0' <= c && c <= '9':
			n.N, _ = strconv.Atoi(rest[0])
		default:
			var k api.Node
			k, rest = node(t, rest)
			n.Kids = append(n.Kids, k)
			continue
		}
		rest = rest[1:]
	}
	return n, rest[1:]
}

func unescaped(s string) string {
	return regexp.MustCompile(`%..`).ReplaceAllStringFunc(s, func(x string) string {
		c, _ := strconv.ParseUint(x[1:], 16, 8)
		return string([]byte{byte(c)})
	})
}

// chance is a row of numbers that is the same at each run of the tests.
type chance uint32

func (c *chance) below(n int) int {
	*c = *c*1664525 + 1013904223
	return int(*c>>8) % n
}

// places are pointers to all nodes of a tree.
func places(n *api.Node) []*api.Node {
	l := []*api.Node{n}
	for i := range n.Kids {
		l = append(l, places(&n.Kids[i])...)
	}
	return l
}

// deep is a tree of a depth with one node at each.
func deep(depth int) api.Node {
	n := api.Node{Op: api.NNum}
	for range depth - 1 {
		n = api.Node{Op: api.NUnary, S: "!", Kids: []api.Node{n}}
	}
	return n
}
