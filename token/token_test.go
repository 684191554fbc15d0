package token

import (
	"math"
	"pantomime/api"
	"pantomime/literal"
	"reflect"
	"strconv"
	"strings"
	"testing"
)

const (
	wordList = "break case catch const continue debugger default delete do else false finally for function if in instanceof new null return switch this throw true try typeof var void while with class enum export extends import super"
	signList = "... === !== <<= >>= &&= ||= ??= <= >= == != ++ -- && || ?? ?. += -= *= /= %= &= |= ^= << >> => { } ( ) [ ] . ; , < > + - * / % & | ^ ! ~ ? : ="
)

// one writes a token in a short form: ~ if it is behind a line end, what it holds, and @ with its place.
func one(t Token) string {
	held := t.S
	switch t.Kind {
	case End:
		held = "END" + t.S
	case Word:
		held = "word:" + t.S
	case Num:
		held = "#" + strconv.Itoa(t.N) + t.S
	case Text:
		held = strconv.Quote(t.S)
	case Piece:
		held = "piece" + strconv.Itoa(t.N) + strconv.Quote(t.S)
		if t.Open {
			held += "+"
		}
	}
	if t.Line {
		held = "~" + held
	}
	return held + "@" + strconv.Itoa(t.At) + "-" + strconv.Itoa(t.To)
}

func shown(l []Token) string {
	var out []string
	for _, t := range l {
		out = append(out, one(t))
	}
	return strings.Join(out, " ")
}

// bare is l without places.
func bare(l []Token) []Token {
	var out []Token
	for _, t := range l {
		t.At, t.To = 0, 0
		out = append(out, t)
	}
	return out
}

func wantNext(t *testing.T, s string, at int, tail bool, want Token) {
	t.Helper()
	if got, e := Next(s, at, tail); got != want || e != api.OK {
		t.Errorf("Next of %.40q (%d bytes) at %d, %v: %+v %d, want %+v", s, len(s), at, tail, got, e, want)
	}
}

func wantNoNext(t *testing.T, s string, at int, tail bool, want api.Errno) {
	t.Helper()
	if got, e := Next(s, at, tail); got != (Token{}) || e != want {
		t.Errorf("Next of %.40q (%d bytes) at %d, %v: %+v %d, want %d", s, len(s), at, tail, got, e, want)
	}
}

func wantAll(t *testing.T, s, want string) {
	t.Helper()
	l, at, e := All(s)
	if shown(l) != want || at != 0 || e != api.OK {
		t.Errorf("All of %.60q: %s %d %d, want %s", s, shown(l), at, e, want)
	}
}

func wantFault(t *testing.T, s string, at int, e api.Errno) {
	t.Helper()
	if l, ga, ge := All(s); l != nil || ga != at || ge != e {
		t.Errorf("All of %.60q (%d bytes): %s %d %d, want %d %d", s, len(s), shown(l), ga, ge, at, e)
	}
}

func TestNextKinds(t *testing.T) { // P3.1
	wantNext(t, "", 0, false, Token{})
	wantNext(t, "", 0, true, Token{})
	wantNext(t, "ab", 2, false, Token{Kind: End, At: 2, To: 2})
	wantNext(t, "ab \t", 2, false, Token{Kind: End, At: 4, To: 4})
	wantNext(t, "a1_$ b", 0, false, Token{Kind: Name, To: 4, S: "a1_$"})
	wantNext(t, "a1_$ b", 2, false, Token{Kind: Name, At: 2, To: 4, S: "_$"})
	wantNext(t, "a1_$ b", 4, false, Token{Kind: Name, At: 5, To: 6, S: "b"})
	wantNext(t, "if(", 0, false, Token{Kind: Word, To: 2, S: "if"})
	wantNext(t, "iff(", 1, false, Token{Kind: Name, At: 1, To: 3, S: "ff"})
	wantNext(t, " 42;", 0, false, Token{Kind: Num, At: 1, To: 3, N: 42})
	wantNext(t, "'a\\x41'+", 0, false, Token{Kind: Text, To: 7, S: "aA"})
	wantNext(t, "\"'\"", 0, false, Token{Kind: Text, To: 3, S: "'"})
	wantNext(t, "'\"`${'", 0, false, Token{Kind: Text, To: 6, S: "\"`${"})
	wantNext(t, "''", 0, false, Token{Kind: Text, To: 2})
	wantNext(t, "=>a", 0, false, Token{Kind: Sign, To: 2, S: "=>"})
	wantNext(t, "=>a", 1, false, Token{Kind: Sign, At: 1, To: 2, S: ">"})
}

func TestNextPieces(t *testing.T) { // P3.1
	wantNext(t, "`a`b", 0, false, Token{Kind: Piece, To: 3, S: "a"})
	wantNext(t, "`a`b", 0, true, Token{Kind: Piece, To: 3, S: "a"})
	wantNext(t, "`a${b", 0, false, Token{Kind: Piece, To: 4, S: "a", Open: true})
	wantNext(t, "``", 0, false, Token{Kind: Piece, To: 2})
	wantNext(t, "`${", 0, false, Token{Kind: Piece, To: 3, Open: true})
	wantNext(t, "`$$a$`", 0, false, Token{Kind: Piece, To: 6, S: "$$a$"})
	wantNext(t, "`a}\n'\"//`", 0, false, Token{Kind: Piece, To: 9, S: "a}\n'\"//"})
	wantNext(t, "`\\`\\${\\x7d`", 0, false, Token{Kind: Piece, To: 11, S: "`${}"})
	wantNext(t, " } a ${b", 0, true, Token{Kind: Piece, At: 1, To: 7, N: 1, S: " a ", Open: true})
	wantNext(t, "x\n}`", 1, true, Token{Kind: Piece, At: 2, To: 4, N: 1, Line: true})
	wantNext(t, "}`", 0, false, Token{Kind: Sign, To: 1, S: "}"})
	wantNext(t, "{`", 0, true, Token{Kind: Sign, To: 1, S: "{"})
}

func TestNextGaps(t *testing.T) { // P3.1
	for _, x := range []struct {
		gap  string
		line bool
	}{
		{"", false}, {" ", false}, {"\t \t", false}, {"\n", true}, {"\r", true}, {"\r\n", true}, {" \n ", true},
		{"/**/", false}, {"/***/", false}, {"/* a */", false}, {"/*/*/", false}, {"/*//*/", false}, {"/* 'a */", false}, {"/*\n*/", true}, {"/*\r*/ ", true}, {"/**//**/\t", false},
		{"//\n", true}, {"//a\r", true}, {"// a /* b \n", true}, {"// a // b\n/* c */", true}, {"/* // */", false}, {"/*a*/ /*\n*/ /*b*/", true}, {"//\xff\x00\n", true},
	} {
		wantNext(t, x.gap+"a", 0, false, Token{Kind: Name, At: len(x.gap), To: len(x.gap) + 1, S: "a", Line: x.line})
		wantNext(t, "\n;"+x.gap+"a", 2, false, Token{Kind: Name, At: len(x.gap) + 2, To: len(x.gap) + 3, S: "a", Line: x.line})
		wantNext(t, x.gap, 0, false, Token{Kind: End, At: len(x.gap), To: len(x.gap), Line: x.line})
	}
	wantNext(t, "// a", 0, false, Token{Kind: End, At: 4, To: 4})
	wantNext(t, "\n// a", 0, true, Token{Kind: End, At: 5, To: 5, Line: true})
	wantNext(t, "a\nb", 2, false, Token{Kind: Name, At: 2, To: 3, S: "b"})
	wantNext(t, "/ /", 0, false, Token{Kind: Sign, To: 1, S: "/"})
	wantNext(t, "/= /", 0, false, Token{Kind: Sign, To: 2, S: "/="})
	wantNext(t, "*/", 0, false, Token{Kind: Sign, To: 1, S: "*"})
}

func TestNextFaults(t *testing.T) { // P3.1
	full := strings.Repeat(" ", api.MaxSrc)
	wantNext(t, full, 0, false, Token{Kind: End, At: api.MaxSrc, To: api.MaxSrc})
	wantNext(t, full, api.MaxSrc, false, Token{Kind: End, At: api.MaxSrc, To: api.MaxSrc})
	wantNoNext(t, full, api.MaxSrc+1, false, api.ErrRange)
	wantNoNext(t, full+" ", 0, false, api.ErrLong)
	wantNoNext(t, full+" ", -1, false, api.ErrLong)
	wantNoNext(t, full+" ", api.MaxSrc+1, true, api.ErrLong)
	for _, at := range []int{-1, 4, math.MinInt, math.MaxInt} {
		wantNoNext(t, "abc", at, false, api.ErrRange)
		wantNoNext(t, "#'\\", at, true, api.ErrRange)
	}
	for _, s := range []string{"/*", "/* ", "/*/", "/* * /", " /**\n", "a/*", "//\n/*", "/**//*"} {
		wantNoNext(t, s, strings.Index(s, "/"), false, api.ErrEnd)
	}
	for _, s := range []string{"'", "\"a", "'a\\", "'\\x", "'\\x4", "'a\"", "'\\'", "`", "`a", "`$", "`a}", "`\\", "`\\x", "`\\xf", "`\n"} {
		wantNoNext(t, s, 0, false, api.ErrEnd)
	}
	for _, s := range []string{"'\\q'", "'\\q\n", "'\\xg", "'\\x'", "'\\x4'", "'\\\n'", "'\\u0041'", "'\\1'", "`\\q`", "`\\{`", "`\\xg", "`\\x`", "`\\\n", "\"\\}\n\""} {
		wantNoNext(t, s, 0, false, api.ErrEscape)
	}
	for _, s := range []string{"'\n'", "'a\r", "\"a\nb\"", "'\n\\q'"} {
		wantNoNext(t, s, 0, false, api.ErrToken)
	}
	wantNoNext(t, "}", 0, true, api.ErrEnd)
	wantNoNext(t, "}\\q", 0, true, api.ErrEscape)
	wantNoNext(t, " \n#", 0, false, api.ErrChar)
}

func TestEachFirstByte(t *testing.T) { // P3.1
	for c := range 256 {
		s := string([]byte{byte(c)})
		switch {
		case strings.Contains("abcdefghijklmnopqrstuvwxyzABCDEFGHIJKLMNOPQRSTUVWXYZ_$", s):
			wantNext(t, s, 0, false, Token{Kind: Name, To: 1, S: s})
		case strings.Contains("0123456789", s):
			wantNext(t, s, 0, false, Token{Kind: Num, To: 1, N: c - '0'})
		case strings.Contains(" \t", s):
			wantNext(t, s, 0, false, Token{Kind: End, At: 1, To: 1})
		case strings.Contains("\n\r", s):
			wantNext(t, s, 0, false, Token{Kind: End, At: 1, To: 1, Line: true})
		case strings.Contains("'\"`", s):
			wantNoNext(t, s, 0, false, api.ErrEnd)
		case strings.Contains("{}()[].;,<>+-*/%&|^!~?:=", s):
			wantNext(t, s, 0, false, Token{Kind: Sign, To: 1, S: s})
		default:
			wantNoNext(t, s, 0, false, api.ErrChar)
			wantNoNext(t, s, 0, true, api.ErrChar)
		}
	}
}

func TestNumbers(t *testing.T) { // P3.1
	for _, x := range []struct {
		s string
		n int
	}{
		{"0", 0}, {"1", 1}, {"10", 10}, {"9007199254740991", api.MaxInt - 1}, {"9007199254740992", api.MaxInt}, {"1234567890", 1234567890},
		{"0x0", 0}, {"0xa", 10}, {"0xABCDEF", 0xabcdef}, {"0x0123456789ab", 0x0123456789ab}, {"0x00000000000000000000000f", 15}, {"0x20000000000000", api.MaxInt},
	} {
		wantNext(t, x.s, 0, false, Token{Kind: Num, To: len(x.s), N: x.n})
		for _, behind := range []string{" ", ".", "..", "+", "'", "`", "}", "\n", "\xff", "\x00", "#", "/*", "-1"} {
			wantNext(t, x.s+behind, 0, false, Token{Kind: Num, To: len(x.s), N: x.n})
		}
		for _, behind := range []string{"g", "Z", "_", "$", "x", "n"} {
			wantNoNext(t, x.s+behind, 0, false, api.ErrToken)
		}
	}
	for _, s := range []string{
		"00", "01", "09", "0_", "0a", "0b1", "0o7", "0e1", "0X1", "0XA", "00x1", "0x", "0x ", "0xg", "0xx", "0x-1", "0x1x", "3a", "1e5", "1_000", "12in",
		"9007199254740993", "9007199254740993 ", "0x20000000000001", "18446744073709551616", "18446744073709551617", "0x10000000000000000", strings.Repeat("9", 400), "1" + strings.Repeat("0", 400) + "a",
	} {
		wantNoNext(t, s, 0, false, api.ErrToken)
		wantFault(t, "a + "+s, 4, api.ErrToken)
	}
}

func TestWords(t *testing.T) { // P3.1
	for _, s := range strings.Split(wordList, " ") {
		wantNext(t, s, 0, false, Token{Kind: Word, To: len(s), S: s})
		wantNext(t, s+"+", 0, false, Token{Kind: Word, To: len(s), S: s})
		for _, n := range []string{s + "s", s + "0", "_" + s, strings.ToUpper(s), s + "$"} {
			wantNext(t, n, 0, false, Token{Kind: Name, To: len(n), S: n})
		}
	}
	for _, s := range []string{"let", "yield", "static", "of", "get", "set", "async", "await", "undefined", "NaN", "implements", "interface", "package", "private", "protected", "public", "eval", "arguments", "constructor"} {
		wantNext(t, s, 0, false, Token{Kind: Name, To: len(s), S: s})
	}
}

// longest is the longest sign at the start of s, found by trying all of them.
func longest(s string) string {
	best := ""
	for _, x := range strings.Split(signList, " ") {
		digit := x == "?." && len(s) > 2 && '0' <= s[2] && s[2] <= '9'
		if strings.HasPrefix(s, x) && len(x) > len(best) && !digit {
			best = x
		}
	}
	return best
}

func TestSigns(t *testing.T) { // P3.1
	for _, x := range strings.Split(signList, " ") {
		wantNext(t, x, 0, false, Token{Kind: Sign, To: len(x), S: x})
		wantNext(t, " "+x+" =", 0, false, Token{Kind: Sign, At: 1, To: len(x) + 1, S: x})
		for c := range 128 {
			s := x + string([]byte{byte(c), '='})
			if w := longest(s); !strings.HasPrefix(s, "//") && !strings.HasPrefix(s, "/*") {
				wantNext(t, s, 0, false, Token{Kind: Sign, To: len(w), S: w})
			}
		}
	}
	wantAll(t, "a?.5", "a@0-1 ?@1-2 .@2-3 #5@3-4 END@4-4")
	wantAll(t, "a?.b", "a@0-1 ?.@1-3 b@3-4 END@4-4")
	wantAll(t, "a?. 5", "a@0-1 ?.@1-3 #5@4-5 END@5-5")
	wantAll(t, "a??.5", "a@0-1 ??@1-3 .@3-4 #5@4-5 END@5-5")
	wantAll(t, "?.", "?.@0-2 END@2-2")
	wantAll(t, ">>>=....", ">>@0-2 >=@2-4 ...@4-7 .@7-8 END@8-8")
	wantAll(t, "**= ===== !=== <<<= =>=", "*@0-1 *=@1-3 ===@4-7 ==@7-9 !==@10-13 =@13-14 <<@15-17 <=@17-19 =>@20-22 =@22-23 END@23-23")
}

func TestAll(t *testing.T) { // P3.2
	wantAll(t, "", "END@0-0")
	wantAll(t, " \n", "~END@2-2")
	wantAll(t, "let x = 1; x + 1", "let@0-3 x@4-5 =@6-7 #1@8-9 ;@9-10 x@11-12 +@13-14 #1@15-16 END@16-16")
	wantAll(t, "a\nb /*\n*/ c // d\n", "a@0-1 ~b@2-3 ~c@10-11 ~END@17-17")
	wantAll(t, "\na b//", "~a@1-2 b@3-4 END@6-6")
	wantAll(t, "1.5", "#1@0-1 .@1-2 #5@2-3 END@3-3")
	wantAll(t, "f('a',\"b\")", "f@0-1 (@1-2 \"a\"@2-5 ,@5-6 \"b\"@6-9 )@9-10 END@10-10")
	wantAll(t, "0x1F", "#31@0-4 END@4-4")
	wantAll(t, "typeof x", "word:typeof@0-6 x@7-8 END@8-8")
	wantAll(t, "a/*/*/b", "a@0-1 b@6-7 END@7-7")
	wantAll(t, strings.Repeat(" ", api.MaxSrc-1)+"a", "a@65535-65536 END@65536-65536")
}

func TestAllTemplates(t *testing.T) { // P3.2
	wantAll(t, "`a${ {} }b`", "piece0\"a\"+@0-4 {@5-6 }@6-7 piece1\"b\"@8-11 END@11-11")
	wantAll(t, "`a`}", "piece0\"a\"@0-3 }@3-4 END@4-4")
	wantAll(t, "`${a}`}`b`", "piece0\"\"+@0-3 a@3-4 piece1\"\"@4-6 }@6-7 piece0\"b\"@7-10 END@10-10")
	wantAll(t, "`${a}x${b}`", "piece0\"\"+@0-3 a@3-4 piece1\"x\"+@4-8 b@8-9 piece1\"\"@9-11 END@11-11")
	wantAll(t, "`${`${a}`}`", "piece0\"\"+@0-3 piece0\"\"+@3-6 a@6-7 piece1\"\"@7-9 piece1\"\"@9-11 END@11-11")
	wantAll(t, "`${`a`}`", "piece0\"\"+@0-3 piece0\"a\"@3-6 piece1\"\"@6-8 END@8-8")
	wantAll(t, "`${{a:{b:`${{}}`}}}`", "piece0\"\"+@0-3 {@3-4 a@4-5 :@5-6 {@6-7 b@7-8 :@8-9 piece0\"\"+@9-12 {@12-13 }@13-14 piece1\"\"@14-16 }@16-17 }@17-18 piece1\"\"@18-20 END@20-20")
	wantAll(t, "{`${{", "{@0-1 piece0\"\"+@1-4 {@4-5 END@5-5")
	wantAll(t, "{}}{`${1}`}}", "{@0-1 }@1-2 }@2-3 {@3-4 piece0\"\"+@4-7 #1@7-8 piece1\"\"@8-10 }@10-11 }@11-12 END@12-12")
	wantAll(t, "`${a\n}b`", "piece0\"\"+@0-3 a@3-4 ~piece1\"b\"@5-8 END@8-8")
	wantAll(t, "`a${/*}*/'}'}`", "piece0\"a\"+@0-4 \"}\"@9-12 piece1\"\"@12-14 END@14-14")
}

func TestAllFaults(t *testing.T) { // P3.2
	wantFault(t, strings.Repeat(" ", api.MaxSrc+1), 0, api.ErrLong)
	wantFault(t, "#"+strings.Repeat(" ", api.MaxSrc), 0, api.ErrLong)
	wantFault(t, "a #", 2, api.ErrChar)
	wantFault(t, "a\n\n@b", 3, api.ErrChar)
	wantFault(t, "a\\u0041", 1, api.ErrChar)
	wantFault(t, "caf\xc3\xa9", 3, api.ErrChar)
	wantFault(t, "\x00", 0, api.ErrChar)
	wantFault(t, "a\v", 1, api.ErrChar)
	wantFault(t, "a\fb", 1, api.ErrChar)
	wantFault(t, "\u2028", 0, api.ErrChar)
	wantFault(t, "a /* b", 2, api.ErrEnd)
	wantFault(t, "a // b\n /* c", 8, api.ErrEnd)
	wantFault(t, "/**/ /*/", 5, api.ErrEnd)
	wantFault(t, "a 'b", 2, api.ErrEnd)
	wantFault(t, "a 'b\n'", 2, api.ErrToken)
	wantFault(t, "a 'b\\q\n", 2, api.ErrEscape)
	wantFault(t, "a 'b\n\\q", 2, api.ErrToken)
	wantFault(t, "a `b", 2, api.ErrEnd)
	wantFault(t, "a `b\\q", 2, api.ErrEscape)
	wantFault(t, "`${a}b", 4, api.ErrEnd)
	wantFault(t, "`${{}}b\\q`", 5, api.ErrEscape)
	wantFault(t, "`${{}} #", 5, api.ErrEnd)
	wantFault(t, "`${/*", 3, api.ErrEnd)
	wantFault(t, "01", 0, api.ErrToken)
	wantFault(t, "3a", 0, api.ErrToken)
	wantFault(t, "0x", 0, api.ErrToken)
	wantFault(t, "x # 'y", 2, api.ErrChar)
	wantFault(t, "01 #", 0, api.ErrToken)
	wantFault(t, "'"+strings.Repeat("a", api.MaxSrc-1), 0, api.ErrEnd)
}

func TestDeepTemplates(t *testing.T) { // P3.2
	const depth = api.MaxSrc / 5
	s := strings.Repeat("`${", depth) + strings.Repeat("}`", depth)
	l, at, e := All(s)
	if len(l) != 2*depth+1 || at != 0 || e != api.OK {
		t.Fatalf("%d tokens %d %d", len(l), at, e)
	}
	for i, x := range l[:2*depth] {
		if x.Kind != Piece || x.Open != (i < depth) || (x.N == 0) != (i < depth) {
			t.Fatalf("token %d: %+v", i, x)
		}
	}
}

func TestText1(t *testing.T) { // P3.3
	for _, x := range []struct {
		t    Token
		want string
	}{
		{Token{}, ""}, {Token{Kind: End, S: "a", N: 4, Open: true}, ""}, {Token{Kind: 7, S: "a"}, ""}, {Token{Kind: -1, S: "a"}, ""}, {Token{Kind: math.MaxInt, S: "a"}, ""},
		{Token{Kind: Name, S: "a1"}, "a1"}, {Token{Kind: Name, S: "a\n\"\xff", N: 4, Line: true}, "a\n\"\xff"}, {Token{Kind: Name}, ""},
		{Token{Kind: Word, S: "if", N: 5, Open: true}, "if"}, {Token{Kind: Sign, S: "=>"}, "=>"}, {Token{Kind: Sign, S: "`"}, "`"},
		{Token{Kind: Num, N: 31, S: "0x1F"}, "31"}, {Token{Kind: Num}, "0"}, {Token{Kind: Num, N: -7}, "-7"}, {Token{Kind: Num, N: math.MinInt}, "-9223372036854775808"}, {Token{Kind: Num, N: math.MaxInt}, "9223372036854775807"},
		{Token{Kind: Text, N: 1, Open: true}, `""`}, {Token{Kind: Text, S: "a'b`$${"}, "\"a'b`$${\""}, {Token{Kind: Text, S: "\"\\\n\t\r\x00"}, `"\"\\\n\t\r\0"`}, {Token{Kind: Text, S: "\x001\x1f ~\x7f\x80\xff"}, `"\01\x1f ~\x7f\x80\xff"`},
		{Token{Kind: Piece}, "``"}, {Token{Kind: Piece, N: 1}, "}`"}, {Token{Kind: Piece, Open: true}, "`${"}, {Token{Kind: Piece, N: 1, Open: true}, "}${"},
		{Token{Kind: Piece, N: 2, S: "a"}, "`a`"}, {Token{Kind: Piece, N: -1, S: "a"}, "`a`"}, {Token{Kind: Piece, N: 1, S: "a", Open: true, Line: true}, "}a${"},
		{Token{Kind: Piece, S: "'\"`${}\\"}, "`'\"\\`\\${}\\\\`"}, {Token{Kind: Piece, S: "\n\t\r\x00\x0b\x1f ~\x7f\xff"}, "`\\n\\t\\r\\0\\x0b\\x1f ~\\x7f\\xff`"},
	} {
		if got := Text1(x.t); got != x.want {
			t.Errorf("Text1 of %+v: %q, want %q", x.t, got, x.want)
		}
	}
}

func TestText1OfEachByte(t *testing.T) { // P3.3
	short := map[int]string{'\n': `\n`, '\t': `\t`, '\r': `\r`, 0: `\0`, '\\': `\\`}
	for c := range 256 {
		b := string([]byte{byte(c)})
		want := b
		if s, known := short[c]; known {
			want = s
		} else if c < 32 || c > 126 {
			want = "\\x" + strconv.FormatInt(int64(c+256), 16)[1:]
		}
		text, piece := want, want
		if c == '"' {
			text = `\"`
		}
		if c == '`' || c == '$' {
			piece = "\\" + b
		}
		for _, n := range []int{0, 1, 5} {
			if got := Text1(Token{Kind: Text, N: n, S: "a" + b + b}); got != `"a`+text+text+`"` {
				t.Errorf("Text1 of a text with byte %d: %q", c, got)
			}
		}
		if got := Text1(Token{Kind: Piece, S: "a" + b + b}); got != "`a"+piece+piece+"`" {
			t.Errorf("Text1 of a piece with byte %d: %q", c, got)
		}
	}
}

func TestJoin(t *testing.T) { // P3.4
	a, b := Token{Kind: Name, S: "a"}, Token{Kind: Num, N: -2, Line: true}
	for _, x := range []struct {
		l    []Token
		want string
	}{
		{nil, ""}, {[]Token{{}}, ""}, {[]Token{{Line: true}}, "\n"}, {[]Token{a}, "a"}, {[]Token{b}, "\n-2"}, {[]Token{a, a}, "a a"}, {[]Token{a, b}, "a\n-2"}, {[]Token{b, a}, "\n-2 a"}, {[]Token{b, b}, "\n-2\n-2"},
		{[]Token{a, {}}, "a "}, {[]Token{a, {Line: true}}, "a\n"}, {[]Token{{}, {}, {}}, "  "}, {[]Token{{Kind: 9, S: "x"}, a}, " a"}, {[]Token{a, {Kind: Name}, a}, "a  a"},
		{[]Token{{Kind: Piece, Open: true}, a, {Kind: Piece, N: 1, S: "$", Line: true}}, "`${ a\n}\\$`"},
	} {
		if got := Join(x.l); got != x.want {
			t.Errorf("Join of %+v: %q, want %q", x.l, got, x.want)
		}
	}
}

// sources are texts from parts of the language, most of them such that All takes them.
func sources(count int) []string {
	parts := strings.Split("a b1 $ _ let if in typeof 0 7 12 0x1F 0xff 'a' \"b\" '\\n\\x41' \"\\\"'\" `` `a` `a${ `${ }` } } { { }b` }${ ' \" ` \\ # /**/ /*a*/ // /* 01 3a 9007199254740993 '\\q' "+signList, " ")
	parts = append(parts, " ", " ", " ", " ", "\n", "\r", "\t", "/*\n*/", "// x\n", "// y\r", "' '", "`\n$`", "\"\xff\x00\"", "\xff")
	var l []string
	state := uint32(1)
	for range count {
		s := ""
		state = state*1664525 + 1013904223
		for range state >> 16 % 16 {
			state = state*1664525 + 1013904223
			s += parts[int(state>>12)%len(parts)]
		}
		l = append(l, s)
	}
	return l
}

func TestAllOfJoin(t *testing.T) { // P3.5
	good := 0
	for _, s := range sources(60000) {
		l, _, e := All(s)
		if e != api.OK {
			continue
		}
		good++
		again, at, e := All(Join(l))
		if !reflect.DeepEqual(bare(again), bare(l)) || at != 0 || e != api.OK {
			t.Fatalf("%q: %s, then %q: %s", s, shown(l), Join(l), shown(again))
		}
	}
	if good < 5000 {
		t.Fatalf("%d sources", good)
	}
}

// isGap reports whether s is white space, line terminators and comments alone, and whether one of its bytes is a line terminator.
func isGap(s string) (gap, line bool) {
	line = strings.ContainsAny(s, "\n\r")
	for s != "" {
		switch {
		case strings.HasPrefix(s, "//"):
			end := strings.IndexAny(s, "\n\r")
			if end < 0 {
				return true, line
			}
			s = s[end:]
		case strings.HasPrefix(s, "/*"):
			end := strings.Index(s[2:], "*/")
			if end < 0 {
				return false, line
			}
			s = s[end+4:]
		case strings.Contains(" \t\n\r", s[:1]):
			s = s[1:]
		default:
			return false, line
		}
	}
	return true, line
}

func TestTokensCoverTheSource(t *testing.T) { // P3.2, P3.6
	for _, s := range sources(60000) {
		l, at, e := All(s)
		if e != api.OK {
			if l != nil || at < 0 || at >= len(s) {
				t.Fatalf("%q: %s %d %d", s, shown(l), at, e)
			}
			continue
		}
		to := 0
		for i, x := range l {
			if gap, line := isGap(s[to:x.At]); !gap || line != x.Line || (x.Kind == End) != (i == len(l)-1) || x.To < x.At {
				t.Fatalf("%q: %s", s, shown(l))
			}
			to = x.To
		}
		if to != len(s) {
			t.Fatalf("%q: %s", s, shown(l))
		}
	}
}

func TestBytesOfAToken(t *testing.T) { // P3.6
	for _, s := range sources(20000) {
		l, _, _ := All(s)
		for _, x := range l {
			own := s[x.At:x.To]
			want := x
			want.At, want.To, want.Line = 0, len(own), false
			tail := x.Kind == Piece && x.N == 1
			wantNext(t, own, 0, tail, want)
			if x.Kind != End {
				wantNext(t, own, len(own), tail, Token{Kind: End, At: len(own), To: len(own)})
			}
		}
	}
}

// TestNextIsAll holds All against calls of Next, with the braces followed by recursion.
func TestNextIsAll(t *testing.T) { // P3.1, P3.2
	for _, s := range sources(20000) {
		var l []Token
		at, fault := 0, api.OK
		var braces func(stop, inTemplate bool)
		step := func(tail bool) (Token, bool) {
			x, e := Next(s, at, tail)
			if fault = e; e != api.OK {
				return x, false
			}
			l, at = append(l, x), x.To
			return x, x.Kind != End
		}
		braces = func(stop, inTemplate bool) {
			for {
				x, more := step(inTemplate)
				switch {
				case !more:
					return
				case x.Kind == Sign && x.S == "{":
					braces(true, false)
				case x.Kind == Piece && x.N == 0 && x.Open:
					braces(false, true)
				case x.Kind == Piece && x.N == 1 && !x.Open || x.Kind == Sign && x.S == "}" && stop:
					return
				}
				if fault != api.OK || l[len(l)-1].Kind == End {
					return
				}
			}
		}
		braces(false, false)
		got, _, e := All(s)
		if e != fault || e == api.OK && !reflect.DeepEqual(got, l) {
			t.Fatalf("%q: %s %d, want %s %d", s, shown(got), e, shown(l), fault)
		}
	}
}

func TestValuesAreThoseOfLiterals(t *testing.T) { // P3.1
	for _, s := range sources(20000) {
		for at := 0; at <= len(s); at++ {
			x, e := Next(s, at, true)
			if e != api.OK || x.Kind != Text && x.Kind != Piece {
				continue
			}
			text, to, open := "", 0, false
			if x.Kind == Text {
				text, to, e = literal.Read(s, x.At)
			} else {
				text, to, open, e = literal.Piece(s, x.At)
			}
			if x.S != text || x.To != to || x.Open != open || e != api.OK || (x.N == 1) != (s[x.At] == '}') {
				t.Fatalf("%q at %d: %s", s, at, one(x))
			}
		}
	}
}
