package asi

import (
	"math"
	"pantomime/api"
	"pantomime/token"
	"reflect"
	"slices"
	"strings"
	"testing"
)

// tokens are the tokens of a source text.
func tokens(t *testing.T, s string) []token.Token {
	t.Helper()
	l, _, e := token.All(s)
	if e != api.OK {
		t.Fatalf("%q: %d", s, e)
	}
	return l
}

func sign(s string) token.Token { return token.Token{Kind: token.Sign, S: s} }

func behindLine(x token.Token) token.Token {
	x.Line = true
	return x
}

// anyTokens are tokens of all kinds, and of none, with texts that fit to their kinds and that do not.
func anyTokens() []token.Token {
	texts := strings.Fields("; } ++ -- => + { ) == = => return break continue throw yield a Return End")
	var l []token.Token
	for _, s := range append(texts, "", " ;", "};", "\n") {
		for kind := -1; kind <= token.Piece+1; kind++ {
			l = append(l, token.Token{Kind: kind, S: s}, token.Token{Kind: kind, S: s, Line: true}, token.Token{Kind: kind, S: s, At: -5, To: math.MinInt, N: 1, Open: true})
		}
	}
	return l
}

func TestMay(t *testing.T) { // P6.1
	for _, x := range []token.Token{sign("}"), {}, {Kind: token.End, At: 4, To: 4}, {Kind: token.End, S: "a"}, behindLine(sign("+")), behindLine(sign(";")), behindLine(sign("}")), {Kind: token.Name, S: "a", Line: true}, {Kind: 99, Line: true}} {
		if !May(x) {
			t.Errorf("May(%+v)", x)
		}
	}
	for _, x := range []token.Token{sign(";"), sign("{"), sign(")"), sign("]"), sign("+"), sign("++"), sign(""), {Kind: token.Name, S: "}"}, {Kind: token.Text, S: "}"}, {Kind: token.Piece, S: "}", N: 1}, {Kind: token.Word, S: "else"}, {Kind: token.Num}, {Kind: token.Num, N: 7, Open: true}, {Kind: -1, S: "}"}, {Kind: 99}} {
		if May(x) {
			t.Errorf("not May(%+v)", x)
		}
	}
	for _, x := range anyTokens() {
		if May(x) != (x.Line || x.Kind == 0 || x.Kind == 5 && x.S == "}") {
			t.Errorf("May(%+v): %v", x, May(x))
		}
	}
	l := tokens(t, "a b\nc } `${{}}` /*\n*/ d")
	var may []bool
	for _, x := range l {
		may = append(may, May(x))
	}
	// The } that continues a template is no punctuator.
	if want := []bool{false, false, true, true, false, false, true, false, true, true}; !slices.Equal(may, want) {
		t.Errorf("May of source text: %v", may)
	}
}

func TestBars(t *testing.T) { // P6.2
	words := []string{"return", "break", "continue", "throw", "yield"}
	for _, word := range words {
		for _, x := range []token.Token{sign("+"), sign(";"), {Kind: token.Name, S: "a"}, {Kind: token.Num, N: 1}, {}} {
			if !Bars(word, behindLine(x)) || Bars(word, x) {
				t.Errorf("Bars(%q) of %+v", word, x)
			}
		}
	}
	others := []string{"a", "", "Return", "return ", " return", "returns", "ret", "breakcontinue", "throw yield", "case", "do", "else", "let", "async", "++", "=>", "}"}
	for _, word := range others {
		for _, s := range []string{"++", "--", "=>"} {
			if !Bars(word, behindLine(sign(s))) || Bars(word, sign(s)) {
				t.Errorf("Bars(%q) of %s", word, s)
			}
			if Bars(word, token.Token{Kind: token.Text, S: s, Line: true}) || Bars(word, token.Token{Kind: token.Piece, S: s, Line: true}) || Bars(word, token.Token{S: s, Line: true}) {
				t.Errorf("Bars(%q) of the text %s", word, s)
			}
		}
		for _, x := range []token.Token{sign("+"), sign("-"), sign("="), sign(">"), sign("+="), sign(">="), sign("("), sign(";"), sign("}"), sign(""), {Kind: token.Name, S: "a"}, {}} {
			if Bars(word, behindLine(x)) || Bars(word, x) {
				t.Errorf("Bars(%q) of %+v", word, x)
			}
		}
	}
	for _, word := range append(words, others...) {
		for _, x := range anyTokens() {
			want := x.Line && (slices.Contains(words, word) || x.Kind == 5 && (x.S == "++" || x.S == "--" || x.S == "=>"))
			if Bars(word, x) != want {
				t.Errorf("Bars(%q) of %+v: %v", word, x, !want)
			}
		}
	}
}

func TestEnds(t *testing.T) { // P6.3
	for _, x := range []struct {
		s    string
		at   int
		next int
		ok   bool
	}{
		{"a b", 1, 0, false}, {"a } b", 1, 1, true}, {"a ; b", 1, 2, true}, {"a b", 0, 0, false}, {"a b", 2, 2, true}, {"a\nb", 1, 1, true}, {"a /*\n*/ b", 1, 1, true}, {"a //\nb", 1, 1, true},
		{"a\n;b", 1, 2, true}, {"a\n}", 1, 1, true}, {";", 0, 1, true}, {"; ;", 1, 2, true}, {"a\n++b", 1, 1, true}, {"a ++ b", 1, 0, false}, {"a)", 1, 0, false}, {"a ';'", 1, 0, false}, {"a '}'", 1, 0, false},
		{"`${a}`", 2, 0, false}, {"\na", 0, 0, true}, {"", 0, 0, true},
		{"a b", 3, 0, false}, {"a b", 4, 0, false}, {"a b", -1, 0, false}, {"; ;", math.MaxInt, 0, false}, {"; ;", math.MinInt, 0, false}, {"", 1, 0, false}, {"", -1, 0, false},
	} {
		if next, ok := Ends(tokens(t, x.s), x.at); next != x.next || ok != x.ok {
			t.Errorf("Ends of %q at %d: %d %v", x.s, x.at, next, ok)
		}
	}
	if next, ok := Ends(nil, 0); next != 0 || ok {
		t.Error("Ends of no tokens")
	}
	if next, ok := Ends([]token.Token{sign("+"), sign(";")}, 1); next != 2 || !ok {
		t.Error("Ends at a last token which is no End")
	}
	l := anyTokens()
	for at, x := range l {
		next, ok := Ends(l, at)
		switch {
		case x.Kind == token.Sign && x.S == ";":
			ok = ok && next == at+1
		case May(x):
			ok = ok && next == at
		default:
			ok = !ok && next == 0
		}
		if !ok {
			t.Errorf("Ends at %d, %+v: %d", at, x, next)
		}
	}
}

func TestLines(t *testing.T) { // P6.4
	for _, x := range []struct {
		s    string
		want []int
	}{
		{"", nil}, {"a b ; }", nil}, {"\n", []int{0}}, {"a\nb", []int{1}}, {"\na\n\nb c\r", []int{0, 1, 3}}, {"a /*\n*/ b // c\n+ d", []int{1, 2}}, {"`\n` a", nil}, {"`${\na\n}`\n;", []int{1, 2, 3}},
	} {
		if got := Lines(tokens(t, x.s)); !slices.Equal(got, x.want) {
			t.Errorf("Lines of %q: %v", x.s, got)
		}
	}
	if got := Lines(nil); len(got) != 0 {
		t.Errorf("Lines of no tokens: %v", got)
	}
	if got := Lines([]token.Token{{Kind: -7, Line: true}, {Kind: 99}, {Line: true}, {Kind: token.Piece, Line: true}}); !slices.Equal(got, []int{0, 2, 3}) {
		t.Errorf("Lines of strange tokens: %v", got)
	}
}

// lists are lists of tokens for the consequences.
func lists(t *testing.T) [][]token.Token {
	t.Helper()
	l := [][]token.Token{nil, anyTokens()}
	for _, s := range []string{"", "a", "a\nb;c\n\n;d}e f++\ng", "if (a) {\nreturn\nb\n} else c\n;;\n}", "`a${\nb}c${d\n}`\n++e", "x = {a, b}\n[c] => d;\n"} {
		l = append(l, tokens(t, s))
	}
	return l
}

func TestInsertedSemicolon(t *testing.T) { // P6.5
	for _, l := range lists(t) {
		for at := range l {
			for _, semicolon := range []token.Token{sign(";"), behindLine(sign(";"))} {
				_, before := Ends(l, at)
				next, ok := Ends(slices.Insert(slices.Clone(l), at, semicolon), at)
				if before && (!ok || next != at+1) {
					t.Errorf("at %d of %q: %d %v", at, token.Join(l), next, ok)
				}
			}
		}
	}
}

func TestClearedLines(t *testing.T) { // P6.5
	for _, l := range lists(t) {
		flat := slices.Clone(l)
		for i := range flat {
			flat[i].Line = false
		}
		if len(Lines(flat)) != 0 {
			t.Errorf("%q has lines yet", token.Join(flat))
		}
		for at := range l {
			next, ok := Ends(flat, at)
			if before, was := Ends(l, at); ok && (!was || before != next) {
				t.Errorf("at %d of %q: %d, with lines %d %v", at, token.Join(l), next, before, was)
			}
		}
	}
}

func TestArgumentsUnchanged(t *testing.T) { // P6.3 and P6.4, by the rule R5
	l := anyTokens()
	kept := slices.Clone(l)
	for at := range l {
		Ends(l, at)
	}
	got := Lines(l)
	first := slices.Clone(got)
	for i := range got {
		got[i] = -1
	}
	if !reflect.DeepEqual(l, kept) || !slices.Equal(Lines(l), first) {
		t.Error("a call changed what another sees")
	}
}
