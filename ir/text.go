package ir

import (
	"pantomime/api"
	"pantomime/literal"
	"strconv"
	"strings"
)

// Text returns the textual form of a unit.
func Text(u api.Unit) (string, api.Errno) {
	if !Right(u) {
		return "", api.ErrArg
	}
	var b strings.Builder
	writeLine(&b, "unit", strconv.Itoa(len(u.Funcs)))
	for i := range u.Funcs {
		f := &u.Funcs[i]
		writeLine(&b, "func", literal.Quote(f.Name), strconv.Itoa(f.Kind), strconv.Itoa(f.Length), strconv.Itoa(f.Locals))
		writeNode(&b, &f.Body)
	}
	return b.String(), api.OK
}

func writeLine(b *strings.Builder, words ...string) {
	b.WriteString(strings.Join(words, " "))
	b.WriteByte('\n')
}

// writeNode writes a line for each node of a tree in preorder.
func writeNode(b *strings.Builder, n *api.Node) {
	writeLine(b, Name(n.Op), strconv.Itoa(n.N), strconv.Itoa(n.M), strconv.Itoa(len(n.Kids)), literal.Quote(n.S))
	for i := range n.Kids {
		writeNode(b, &n.Kids[i])
	}
}
