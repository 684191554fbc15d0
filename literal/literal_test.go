package literal

import (
	"math"
	"pantomime/api"
	"strings"
	"testing"
)

const (
	always = "break case catch class const continue debugger default delete do else enum export extends false finally for function if import in instanceof new null return super switch this throw true try typeof var void while with"
	strict = "implements interface let package private protected public static yield"
)

// reading is a call of Read and what it has to answer.
type reading struct {
	s    string
	at   int
	text string
	next int
	e    api.Errno
}

// piecing is a call of Piece and what it has to answer.
type piecing struct {
	s    string
	at   int
	text string
	next int
	open bool
	e    api.Errno
}

func readAll(t *testing.T, l []reading) {
	t.Helper()
	for _, x := range l {
		if text, next, e := Read(x.s, x.at); text != x.text || next != x.next || e != x.e {
			t.Errorf("Read of %.40q (%d bytes) at %d: %.40q (%d bytes) %d %d", x.s, len(x.s), x.at, text, len(text), next, e)
		}
	}
}

func pieceAll(t *testing.T, l []piecing) {
	t.Helper()
	for _, x := range l {
		if text, next, open, e := Piece(x.s, x.at); text != x.text || next != x.next || open != x.open || e != x.e {
			t.Errorf("Piece of %.40q (%d bytes) at %d: %.40q (%d bytes) %d %v %d", x.s, len(x.s), x.at, text, len(text), next, open, e)
		}
	}
}

// bytes256 is every byte once, in order.
func bytes256() string {
	var b strings.Builder
	for c := range 256 {
		b.WriteByte(byte(c))
	}
	return b.String()
}

func TestQuote(t *testing.T) { // P2.1
	for _, x := range [][2]string{
		{"", `""`}, {"a\n\"", `"a\n\""`}, {"\n\t\r\x00", `"\n\t\r\0"`}, {`\`, `"\\"`}, {"'`$", "\"'`$\""}, {"${", `"${"`},
		{" ~", `" ~"`}, {"\x1f\x7f", `"\x1f\x7f"`}, {"\x80\xff", `"\x80\xff"`}, {"\x00" + "1", `"\01"`}, {"\u00e9", `"\xc3\xa9"`}, {"\v\f\b", `"\x0b\x0c\x08"`},
	} {
		if got := Quote(x[0]); got != x[1] {
			t.Errorf("Quote of %q: %s, want %s", x[0], got, x[1])
		}
	}
}

func TestQuoteOfEachByte(t *testing.T) { // P2.1
	for c := range 256 {
		want := string([]byte{byte(c)})
		switch c {
		case 10:
			want = `\n`
		case 9:
			want = `\t`
		case 13:
			want = `\r`
		case 0:
			want = `\0`
		case '"', '\\':
			want = `\` + want
		default:
			if c < 32 || c > 126 {
				const hex = "0123456789abcdef"
				want = `\x` + string([]byte{hex[c/16], hex[c%16]})
			}
		}
		if got := Quote(string([]byte{byte(c)})); got != `"`+want+`"` {
			t.Errorf("Quote of byte %d: %s", c, got)
		}
	}
}

func TestRead(t *testing.T) { // P2.1
	readAll(t, []reading{
		{`''`, 0, "", 2, api.OK}, {`""`, 0, "", 2, api.OK}, {`'a\x41'`, 0, "aA", 7, api.OK},
		{`'a"b'`, 0, `a"b`, 5, api.OK}, {`"a'b"`, 0, "a'b", 5, api.OK}, {"'a`b${'", 0, "a`b${", 7, api.OK},
		{`x = "ab" + 'c'`, 4, "ab", 8, api.OK}, {`x = "ab" + 'c'`, 11, "c", 14, api.OK}, {`'a''b'`, 0, "a", 3, api.OK},
		{"'\\n\\t\\r\\0\\\\\\'\\\"\\`\\$'", 0, "\n\t\r\x00\\'\"`$", 20, api.OK}, {`"\'\""`, 0, `'"`, 6, api.OK},
		{`'\01'`, 0, "\x001", 5, api.OK}, {`'\\n'`, 0, `\n`, 5, api.OK}, {`'\x411'`, 0, "A1", 7, api.OK},
		{`'\x00\xfF\xAb\x9a'`, 0, "\x00\xff\xab\x9a", 18, api.OK}, {`'\x0a\x0d\x27'`, 0, "\n\r'", 14, api.OK},
		{"'\x00\t\x0b\x7f\x80\xff\u2028'", 0, "\x00\t\x0b\x7f\x80\xff\u2028", 11, api.OK},
	})
}

func TestReadFaults(t *testing.T) { // P2.1
	readAll(t, []reading{
		{"", 0, "", 0, api.ErrArg}, {`'a'`, -1, "", 0, api.ErrArg}, {`'a'`, 3, "", 0, api.ErrArg}, {`'a'`, 4, "", 0, api.ErrArg},
		{`'a'`, math.MaxInt, "", 0, api.ErrArg}, {`'a'`, math.MinInt, "", 0, api.ErrArg}, {`'a'`, 1, "", 0, api.ErrArg},
		{"`a`", 0, "", 0, api.ErrArg}, {"}a`", 0, "", 0, api.ErrArg}, {`\'a'`, 0, "", 0, api.ErrArg},
		{`'`, 0, "", 0, api.ErrEnd}, {`'a`, 0, "", 0, api.ErrEnd}, {`'a'`, 2, "", 0, api.ErrEnd}, {`'a"`, 0, "", 0, api.ErrEnd}, {`"a'`, 0, "", 0, api.ErrEnd},
		{`'a\`, 0, "", 0, api.ErrEnd}, {`'a\'`, 0, "", 0, api.ErrEnd}, {`'a\x`, 0, "", 0, api.ErrEnd}, {`'a\x4`, 0, "", 0, api.ErrEnd}, {`'a\x41`, 0, "", 0, api.ErrEnd},
		{"'a\nb'", 0, "", 0, api.ErrToken}, {"'a\rb'", 0, "", 0, api.ErrToken}, {"'a\n", 0, "", 0, api.ErrToken}, {"\"\r\"", 0, "", 0, api.ErrToken},
		{"'\\\n'", 0, "", 0, api.ErrEscape}, {"'\\\r'", 0, "", 0, api.ErrEscape}, {`'\xg`, 0, "", 0, api.ErrEscape}, {`'\x4g`, 0, "", 0, api.ErrEscape},
		{`'\x'`, 0, "", 0, api.ErrEscape}, {`'\x4'`, 0, "", 0, api.ErrEscape}, {"'\\x\n", 0, "", 0, api.ErrEscape}, {`'\X41'`, 0, "", 0, api.ErrEscape}, {`'\u0041'`, 0, "", 0, api.ErrEscape},
		{"'\\q\n", 0, "", 0, api.ErrEscape}, {"'\n\\q", 0, "", 0, api.ErrToken}, {`'a\qb`, 0, "", 0, api.ErrEscape},
	})
}

func TestPiece(t *testing.T) { // P2.1
	pieceAll(t, []piecing{
		{"`a${b", 0, "a", 4, true, api.OK}, {"``", 0, "", 2, false, api.OK}, {"}`", 0, "", 2, false, api.OK}, {"`${", 0, "", 3, true, api.OK}, {"}${", 0, "", 3, true, api.OK},
		{"`a}b`", 0, "a}b", 5, false, api.OK}, {"x}b`c", 1, "b", 4, false, api.OK}, {"a}b${", 1, "b", 5, true, api.OK},
		{"`a\nb\rc`", 0, "a\nb\rc", 7, false, api.OK}, {"`'\"`", 0, "'\"", 4, false, api.OK}, {"`{}`", 0, "{}", 4, false, api.OK},
		{"`$`", 0, "$", 3, false, api.OK}, {"`$$`", 0, "$$", 4, false, api.OK}, {"`$${x", 0, "$", 4, true, api.OK}, {"`$a{`", 0, "$a{", 5, false, api.OK},
		{"`\\${`", 0, "${", 5, false, api.OK}, {"`\\$${`", 0, "$", 5, true, api.OK}, {"`$\\{`", 0, "", 0, false, api.ErrEscape}, {"`\\``", 0, "`", 4, false, api.OK}, {"`\\\\`", 0, `\`, 4, false, api.OK},
		{"`\\n\\t\\r\\0\\'\\\"\\x4A\\x4a`", 0, "\n\t\r\x00'\"JJ", 22, false, api.OK}, {"`\x00\x7f\xff`", 0, "\x00\x7f\xff", 5, false, api.OK},
	})
}

func TestPieceFaults(t *testing.T) { // P2.1
	pieceAll(t, []piecing{
		{"", 0, "", 0, false, api.ErrArg}, {"`a`", -1, "", 0, false, api.ErrArg}, {"`a`", 3, "", 0, false, api.ErrArg}, {"`a`", 1, "", 0, false, api.ErrArg},
		{"`a`", math.MaxInt, "", 0, false, api.ErrArg}, {"`a`", math.MinInt, "", 0, false, api.ErrArg}, {"'a'", 0, "", 0, false, api.ErrArg}, {"\"a\"", 0, "", 0, false, api.ErrArg}, {"${`", 0, "", 0, false, api.ErrArg}, {"{`", 0, "", 0, false, api.ErrArg},
		{"`", 0, "", 0, false, api.ErrEnd}, {"}", 0, "", 0, false, api.ErrEnd}, {"`a", 0, "", 0, false, api.ErrEnd}, {"`a\n", 0, "", 0, false, api.ErrEnd}, {"`$", 0, "", 0, false, api.ErrEnd}, {"`a}", 0, "", 0, false, api.ErrEnd},
		{"`\\", 0, "", 0, false, api.ErrEnd}, {"`\\`", 0, "", 0, false, api.ErrEnd}, {"`\\x", 0, "", 0, false, api.ErrEnd}, {"`\\x4", 0, "", 0, false, api.ErrEnd}, {"`\\${", 0, "", 0, false, api.ErrEnd},
		{"`\\q`", 0, "", 0, false, api.ErrEscape}, {"`\\\n`", 0, "", 0, false, api.ErrEscape}, {"`\\x`", 0, "", 0, false, api.ErrEscape}, {"`\\x4`", 0, "", 0, false, api.ErrEscape}, {"`\\xg", 0, "", 0, false, api.ErrEscape}, {"`\\}`", 0, "", 0, false, api.ErrEscape},
	})
}

func TestEachEscape(t *testing.T) { // P2.1
	denotes := map[byte]string{'n': "\n", 't': "\t", 'r': "\r", '0': "\x00", '\\': `\`, '\'': "'", '"': `"`, '`': "`", '$': "$"}
	for c := range 256 {
		want, known := denotes[byte(c)]
		next, e := 4, api.OK
		if !known {
			next, e = 0, api.ErrEscape
		}
		sign := "\\" + string([]byte{byte(c)})
		readAll(t, []reading{{"'" + sign + "'", 0, want, next, e}})
		pieceAll(t, []piecing{{"`" + sign + "`", 0, want, next, false, e}})
	}
}

func TestEachPairOfDigits(t *testing.T) { // P2.1
	const digits = "0123456789abcdefABCDEF"
	worth := func(i int) int {
		if i > 15 {
			return i - 6
		}
		return i
	}
	for a := range 256 {
		for b := range 256 {
			x := reading{"'\\x" + string([]byte{byte(a), byte(b)}) + "'", 0, "", 0, api.ErrEscape}
			i, j := strings.IndexByte(digits, byte(a)), strings.IndexByte(digits, byte(b))
			if i >= 0 && j >= 0 {
				x.text, x.next, x.e = string([]byte{byte(worth(i)*16 + worth(j))}), 6, api.OK
			}
			readAll(t, []reading{x})
		}
	}
}

func TestMaxText(t *testing.T) { // P2.1
	full, more := strings.Repeat("a", api.MaxText), strings.Repeat("a", api.MaxText+1)
	escaped := strings.Repeat(`\n`, api.MaxText)
	hex := strings.Repeat(`\xff`, api.MaxText)
	readAll(t, []reading{
		{"'" + full + "'", 0, full, api.MaxText + 2, api.OK},
		{"'" + more + "'", 0, "", 0, api.ErrLong},
		{"'" + more, 0, "", 0, api.ErrLong},
		{"'" + full, 0, "", 0, api.ErrEnd},
		{"'" + full + "\n", 0, "", 0, api.ErrToken},
		{"'" + full + `\`, 0, "", 0, api.ErrEnd},
		{"'" + full + `\x4`, 0, "", 0, api.ErrEnd},
		{"'" + full + `\q`, 0, "", 0, api.ErrEscape},
		{"'" + full + `\n`, 0, "", 0, api.ErrLong},
		{"'" + more + "\n", 0, "", 0, api.ErrLong},
		{"'" + more + `\q`, 0, "", 0, api.ErrLong},
		{"'" + escaped + "'", 0, strings.Repeat("\n", api.MaxText), 2*api.MaxText + 2, api.OK},
		{"'" + escaped + `\n'`, 0, "", 0, api.ErrLong},
		{"'" + hex + "'", 0, strings.Repeat("\xff", api.MaxText), 4*api.MaxText + 2, api.OK},
		{"'" + hex + `\xff'`, 0, "", 0, api.ErrLong},
	})
	pieceAll(t, []piecing{
		{"`" + full + "`", 0, full, api.MaxText + 2, false, api.OK},
		{"`" + full + "${", 0, full, api.MaxText + 3, true, api.OK},
		{"`" + more + "`", 0, "", 0, false, api.ErrLong},
		{"`" + full + "$`", 0, "", 0, false, api.ErrLong},
		{"`" + full, 0, "", 0, false, api.ErrEnd},
		{"`" + full + `\q`, 0, "", 0, false, api.ErrEscape},
		{"`" + full + "\\``", 0, "", 0, false, api.ErrLong},
		{"`" + escaped + "`", 0, strings.Repeat("\n", api.MaxText), 2*api.MaxText + 2, false, api.OK},
	})
}

func TestName(t *testing.T) { // P2.2
	for _, x := range []struct {
		s    string
		at   int
		name string
		next int
	}{
		{"ab1.c", 0, "ab1", 3}, {"ab1.c", 1, "b1", 3}, {"ab1.c", 4, "c", 5}, {"a", 0, "a", 1}, {"$_", 0, "$_", 2}, {"_0$9Z z", 0, "_0$9Z", 5},
		{"azAZ09_$", 0, "azAZ09_$", 8}, {"if(", 0, "if", 2}, {"a\xc3\xa9", 0, "a", 1}, {"a-b", 0, "a", 1},
		{"ab1.c", 2, "", 0}, {"ab1.c", 3, "", 0}, {"1a", 0, "", 0}, {" a", 0, "", 0}, {"\xc3\xa9", 0, "", 0}, {"", 0, "", 0},
		{"a", 1, "", 0}, {"a", 2, "", 0}, {"a", -1, "", 0}, {"a", math.MaxInt, "", 0}, {"a", math.MinInt, "", 0},
	} {
		if name, next := Name(x.s, x.at); name != x.name || next != x.next {
			t.Errorf("Name of %q at %d: %q %d", x.s, x.at, name, next)
		}
	}
}

func TestNameOfEachByte(t *testing.T) { // P2.2
	const letters = "abcdefghijklmnopqrstuvwxyzABCDEFGHIJKLMNOPQRSTUVWXYZ_$"
	for c := range 256 {
		one := string([]byte{byte(c)})
		letter := strings.Contains(letters, one)
		inside := letter || strings.Contains("0123456789", one)
		if name, next := Name(one, 0); (name == one && next == 1) != letter || (name == "" && next == 0) == letter {
			t.Errorf("Name of byte %d: %q %d", c, name, next)
		}
		if _, next := Name("a"+one, 0); (next == 2) != inside {
			t.Errorf("Name with byte %d inside", c)
		}
		if IsName(one) != letter || IsName("a"+one) != inside {
			t.Errorf("IsName of byte %d", c)
		}
	}
}

func TestWordAndIsName(t *testing.T) { // P2.2
	for _, x := range []struct {
		words string
		word  int
		name  bool
	}{
		{always, 1, false}, {strict, 2, true},
		{"a of async await get set eval arguments undefined NaN If LET iff le lets constructor goto $ _", 0, true},
		{"1 1a a-b a.b \xc3\xa9 a\xff +", 0, false},
	} {
		for _, s := range strings.Split(x.words, " ") {
			if Word(s) != x.word || IsName(s) != x.name {
				t.Errorf("%q: %d %v", s, Word(s), IsName(s))
			}
		}
	}
	for _, s := range []string{"", " ", "a b", " a", "a ", "if ", "break case", "let\n"} {
		if Word(s) != 0 || IsName(s) {
			t.Errorf("%q: %d %v", s, Word(s), IsName(s))
		}
	}
}

func TestReadOfQuote(t *testing.T) { // P2.3
	texts := []string{"", "a", "ab \x00\x01\x7f\xff\t\r\n\"'\\$`", "\x00" + "12", `\`, `\\`, `\"`, `\x41`, "${a}`", bytes256(), strings.Repeat(bytes256(), api.MaxText/256), strings.Repeat("\xff", api.MaxText)}
	for c := range 256 {
		texts = append(texts, string([]byte{byte(c)}), string([]byte{'a', byte(c), '0'}), string([]byte{0, byte(c), byte(c)}))
	}
	for _, s := range texts {
		q := Quote(s)
		for _, before := range []string{"", "x", `"`, `\`, "'`\n\xff"} {
			for _, behind := range []string{"", "x", `"`, `\`, "'`\n\xff"} {
				readAll(t, []reading{{before + q + behind, len(before), s, len(before) + len(q), api.OK}})
			}
		}
	}
}

func TestAnyBytes(t *testing.T) { // P2.1, P2.2 and that no call panics
	const some = "'\"`}${\\xnr0q4fgZ_ \n\r\xff"
	state := uint32(1)
	for range 20000 {
		var b []byte
		for range 8 {
			state = state*1664525 + 1013904223
			b = append(b, some[int(state>>16)%len(some)])
		}
		s := string(b)
		for at := -1; at <= len(s)+1; at++ {
			checkPlace(t, s, at)
		}
		if text, _, e := Read(Quote(s), 0); text != s || e != api.OK {
			t.Fatalf("Quote of %q", s)
		}
	}
}

// checkPlace holds the calls at one offset against what the document says of all their answers.
func checkPlace(t *testing.T, s string, at int) {
	t.Helper()
	text, next, e := Read(s, at)
	if e != api.OK && (text != "" || next != 0) || e == api.OK && s[next-1] != s[at] {
		t.Fatalf("Read of %q at %d: %q %d %d", s, at, text, next, e)
	}
	text, next, open, e := Piece(s, at)
	if e != api.OK && (text != "" || next != 0 || open) || e == api.OK && open != (s[next-1] == '{') {
		t.Fatalf("Piece of %q at %d: %q %d %v %d", s, at, text, next, open, e)
	}
	name, next := Name(s, at)
	if name == "" && next != 0 || name != "" && s[at:next] != name {
		t.Fatalf("Name of %q at %d: %q %d", s, at, name, next)
	}
}
