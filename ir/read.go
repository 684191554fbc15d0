package ir

import (
	"pantomime/api"
	"pantomime/literal"
	"pantomime/num"
	"strings"
)

const (
	maxSource   = 1 << 20 // bytes of a textual form
	maxChildren = 1 << 20 // children that a line may tell of
)

// Read parses the textual form of a unit, and tells the line of the first error.
func Read(s string) (u api.Unit, line int, e api.Errno) {
	if len(s) > maxSource {
		return api.Unit{}, 0, api.ErrLong
	}
	r := &reader{left: s}
	if u, e = r.unit(); e != api.OK {
		return api.Unit{}, r.line, e
	}
	if !Right(u) {
		return api.Unit{}, 0, api.ErrArg
	}
	return u, 0, api.OK
}

// reader reads a text by lines.
type reader struct {
	left string // what was not read yet
	line int    // the number of the line that is being read
}

// next returns the words of the next line.
func (r *reader) next() (*words, api.Errno) {
	r.line++
	line, left, found := strings.Cut(r.left, "\n")
	if !found {
		return nil, api.ErrEnd
	}
	r.left = left
	// With a space behind the last word, each word ends in one.
	return &words{left: line + " "}, api.OK
}

// unit reads all lines.
func (r *reader) unit() (u api.Unit, e api.Errno) {
	w, e := r.next()
	if e != api.OK {
		return u, e
	}
	w.skip("unit")
	count := w.number(1, api.MaxNames)
	if !w.end() {
		return u, api.ErrForm
	}
	for range count {
		f, e := r.function()
		if e != api.OK {
			return u, e
		}
		u.Funcs = append(u.Funcs, f)
	}
	if r.left != "" {
		r.line++
		return u, api.ErrForm
	}
	return u, api.OK
}

// function reads the line of a function and those of its body.
func (r *reader) function() (f api.Func, e api.Errno) {
	w, e := r.next()
	if e != api.OK {
		return f, e
	}
	w.skip("func")
	f.Name = w.text()
	f.Kind = w.number(-api.MaxInt, api.MaxInt)
	f.Length = w.number(-api.MaxInt, api.MaxInt)
	f.Locals = w.number(-api.MaxInt, api.MaxInt)
	if !w.end() {
		return f, api.ErrForm
	}
	f.Body, e = r.node(1)
	return f, e
}

// node reads the line of a node at a level, and those of its children.
func (r *reader) node(level int) (n api.Node, e api.Errno) {
	w, e := r.next()
	if e != api.OK {
		return n, e
	}
	n.Op = w.kind()
	n.N = w.number(-api.MaxInt, api.MaxInt)
	n.M = w.number(-api.MaxInt, api.MaxInt)
	count := w.number(0, maxChildren)
	n.S = w.text()
	if !w.end() {
		return n, api.ErrForm
	}
	if level > maxLevels {
		return n, api.ErrDeep
	}
	for range count {
		k, e := r.node(level + 1)
		if e != api.OK {
			return n, e
		}
		n.Kids = append(n.Kids, k)
	}
	return n, api.OK
}

// words is what is left of a line, of which each word ends in a space. Where a word is not what it has to be, the line is wrong from there on.
type words struct {
	left  string
	wrong bool
}

// skip skips the next word, which has to be the one given.
func (w *words) skip(word string) {
	left, found := strings.CutPrefix(w.left, word+" ")
	w.left = left
	w.wrong = w.wrong || !found
}

// next returns the next word, which holds no space.
func (w *words) next() string {
	word, left, _ := strings.Cut(w.left, " ")
	w.left = left
	return word
}

// number reads a number from least to most.
func (w *words) number(least, most int) int {
	word := w.next()
	v := num.Read(word)
	if v.Kind != api.Num || num.Text(v) != word || !within(least, v.N, most) {
		w.wrong = true
		return 0
	}
	return v.N
}

// kind reads the name of a kind.
func (w *words) kind() int {
	op := kind(w.next())
	w.wrong = w.wrong || op == 0
	return op
}

// text reads a quoted string.
func (w *words) text() string {
	s, _, e := literal.Read(w.left, 0)
	w.wrong = w.wrong || e != api.OK
	w.skip(literal.Quote(s))
	return s
}

// end reports whether the line was right and nothing is left of it.
func (w *words) end() bool { return !w.wrong && w.left == "" }
