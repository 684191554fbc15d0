package num

import (
	"math"
	"math/big"
	"pantomime/api"
	"strconv"
	"strings"
	"testing"
)

const most = api.MaxInt

var none = api.Value{Kind: api.NaN}

func of(n int) api.Value { return api.Value{Kind: api.Num, N: n} }

// ends are integers at which the rules of the range and of the low word turn.
func ends() []int {
	var l []int
	for _, n := range []int{0, 1, 7, 31, 32, 1 << 16, 1 << 26, 1 << 27, 94906265, 94906266, 1 << 31, 1 << 32, 3 << 32, most / 3, most / 2, most} {
		for d := -2; d <= 2; d++ {
			l = append(l, n+d, -n+d)
		}
	}
	return append(l, math.MaxInt, math.MinInt)
}

// strangers are values that are not numbers and so count as NaN.
func strangers() []api.Value {
	return []api.Value{
		{}, {Kind: api.Null}, {Kind: api.Bool, N: 1}, {Kind: api.Text, S: "5"}, {Kind: api.Symbol, N: 3},
		{Kind: api.Object, N: 9}, {Kind: api.Hole}, {Kind: api.Inner, N: 2}, {Kind: -1, N: 4}, {Kind: 77},
		{Kind: api.Num, N: most + 1}, {Kind: api.Num, N: -most - 1}, {Kind: api.Num, N: math.MinInt},
		{Kind: api.Num, N: math.MaxInt}, {Kind: api.Num, N: 5, S: "x"}, {Kind: api.NaN, N: 1}, {Kind: api.NaN, S: "x"},
	}
}

// values are all of ends, NaN and strangers.
func values() []api.Value {
	l := append(strangers(), none)
	for _, n := range ends() {
		l = append(l, of(n))
	}
	return l
}

func known(v api.Value) bool {
	return v.Kind == api.Num && v.S == "" && -most <= v.N && v.N <= most
}

// exact is the number that x is, or NaN if it is nil or out of range.
func exact(x *big.Int) api.Value {
	if x == nil || x.CmpAbs(big.NewInt(most)) > 0 {
		return none
	}
	return of(int(x.Int64()))
}

func want(t *testing.T, what string, got, want api.Value) {
	t.Helper()
	if got != want {
		t.Errorf("%s: got %v, want %v", what, got, want)
	}
}

func TestInOfIs(t *testing.T) { // P1.1
	for _, x := range []struct {
		n  int
		in bool
	}{{0, true}, {-1, true}, {most, true}, {-most, true}, {most + 1, false}, {-most - 1, false}, {math.MaxInt, false}, {math.MinInt, false}} {
		v := none
		if x.in {
			v = of(x.n)
		}
		if In(x.n) != x.in {
			t.Errorf("In(%d)", x.n)
		}
		want(t, "Of "+strconv.Itoa(x.n), Of(x.n), v)
		if Is(of(x.n)) != x.in {
			t.Errorf("Is of %d", x.n)
		}
	}
	if !Is(none) {
		t.Error("Is of NaN")
	}
	for _, v := range strangers() {
		if Is(v) {
			t.Errorf("Is of %v", v)
		}
	}
}

func TestArithmeticExamples(t *testing.T) { // P1.2
	for _, x := range []struct {
		what      string
		got, want api.Value
	}{
		{"2+3", Add(of(2), of(3)), of(5)},
		{"most+0", Add(of(most), of(0)), of(most)},
		{"most+1", Add(of(most), of(1)), none},
		{"-most+-1", Add(of(-most), of(-1)), none},
		{"2-3", Sub(of(2), of(3)), of(-1)},
		{"-most-1", Sub(of(-most), of(1)), none},
		{"-most - -most", Sub(of(-most), of(-most)), of(0)},
		{"3*-4", Mul(of(3), of(-4)), of(-12)},
		{"2^30*2^30", Mul(of(1<<30), of(1<<30)), none},
		{"2^32*2^32, which wraps to 0", Mul(of(1<<32), of(1<<32)), none},
		{"2^26*2^27", Mul(of(1<<26), of(1<<27)), of(most)},
		{"-2^26*2^27", Mul(of(-1<<26), of(1<<27)), of(-most)},
		{"most*-1", Mul(of(most), of(-1)), of(-most)},
		{"0*most", Mul(of(0), of(most)), of(0)},
		{"-7/2", Div(of(-7), of(2)), of(-3)},
		{"-7%2", Rem(of(-7), of(2)), of(-1)},
		{"7/-2", Div(of(7), of(-2)), of(-3)},
		{"7%-2", Rem(of(7), of(-2)), of(1)},
		{"-7/-2", Div(of(-7), of(-2)), of(3)},
		{"-6%3", Rem(of(-6), of(3)), of(0)},
		{"most/-1", Div(of(most), of(-1)), of(-most)},
		{"1/0", Div(of(1), of(0)), none},
		{"0/0", Div(of(0), of(0)), none},
		{"1%0", Rem(of(1), of(0)), none},
		{"-most", Neg(of(most)), of(-most)},
		{"- -most", Neg(of(-most)), of(most)},
		{"-0", Neg(of(0)), of(0)},
		{"-NaN", Neg(none), none},
	} {
		want(t, x.what, x.got, x.want)
	}
}

func TestArithmeticIsExact(t *testing.T) { // P1.2
	for _, a := range values() {
		for _, b := range values() {
			var sum, less, product, quotient, rest, minus *big.Int
			if known(a) && known(b) {
				x, y := big.NewInt(int64(a.N)), big.NewInt(int64(b.N))
				sum, less, product = new(big.Int).Add(x, y), new(big.Int).Sub(x, y), new(big.Int).Mul(x, y)
				if b.N != 0 {
					quotient, rest = new(big.Int).QuoRem(x, y, new(big.Int))
				}
			}
			if known(a) {
				minus = new(big.Int).Neg(big.NewInt(int64(a.N)))
			}
			for _, x := range []struct {
				what string
				got  api.Value
				want *big.Int
			}{
				{"Add", Add(a, b), sum}, {"Sub", Sub(a, b), less}, {"Mul", Mul(a, b), product},
				{"Div", Div(a, b), quotient}, {"Rem", Rem(a, b), rest}, {"Neg", Neg(a), minus},
			} {
				if w := exact(x.want); x.got != w {
					t.Fatalf("%s of %v and %v: got %v, want %v", x.what, a, b, x.got, w)
				}
			}
		}
	}
}

func TestLess(t *testing.T) { // P1.3
	for _, a := range values() {
		for _, b := range values() {
			less, sure := Less(a, b)
			both := known(a) && known(b)
			if sure != both || less != (both && a.N < b.N) {
				t.Errorf("Less of %v and %v: %v %v", a, b, less, sure)
			}
		}
	}
}

func TestBitsExamples(t *testing.T) { // P1.4
	for _, x := range []struct {
		op   string
		a, b int
		want int
	}{
		{"&", 6, 3, 2}, {"|", 6, 3, 7}, {"^", 6, 3, 5}, {"^", 6, -1, -7}, {"&", -1, 1 << 31, -1 << 31},
		{"|", 1 << 32, 0, 0}, {"|", 1<<32 + 5, 0, 5}, {"|", 1 << 31, 0, -1 << 31}, {"|", -1<<31 - 1, 0, 1<<31 - 1},
		{"|", most, 0, 0}, {"|", most - 1, 0, -1}, {"|", -most, 0, 0}, {"|", -most + 1, 0, 1},
		{"<<", 1, 0, 1}, {"<<", 1, 31, -1 << 31}, {"<<", 1, 32, 1}, {"<<", 1, 33, 2}, {"<<", 3, -1, -1 << 31},
		{"<<", 1, -31, 2}, {"<<", 1 << 31, 1, 0}, {"<<", 0x12345678, 4, 0x23456780}, {"<<", 1, 1<<32 + 4, 16},
		{">>", -8, 1, -4}, {">>", -1, 31, -1}, {">>", 8, 32, 8}, {">>", 8, 35, 1}, {">>", -8, -31, -4},
		{">>", 1 << 31, 31, -1}, {">>", 1<<33 + 8, 2, 2},
	} {
		if got := Bits(x.op, of(x.a), of(x.b)); got != of(x.want) {
			t.Errorf("%d %s %d: got %v, want %d", x.a, x.op, x.b, got, x.want)
		}
	}
}

func TestBitsOfStrangersAndOps(t *testing.T) { // P1.4
	for _, v := range append(strangers(), none) {
		want(t, "&", Bits("&", v, of(3)), of(0))
		want(t, "|", Bits("|", of(3), v), of(3))
		want(t, "^", Bits("^", v, v), of(0))
		want(t, "<<", Bits("<<", of(3), v), of(3))
		want(t, ">>", Bits(">>", v, of(3)), of(0))
		want(t, "~", Bits("~", v, v), none)
	}
	for _, op := range []string{"", "~", "+", "&&", "||", ">>>", "<", "<<=", " &", "& "} {
		want(t, op, Bits(op, of(1), of(1)), none)
	}
}

func TestBitsByWord(t *testing.T) { // P1.4
	word := func(v api.Value) uint32 {
		if !known(v) {
			return 0
		}
		return uint32(new(big.Int).And(big.NewInt(int64(v.N)), big.NewInt(1<<32-1)).Uint64())
	}
	for _, a := range values() {
		for _, b := range values() {
			x, y := word(a), word(b)
			want(t, "&", Bits("&", a, b), of(int(int32(x&y))))
			want(t, "|", Bits("|", a, b), of(int(int32(x|y))))
			want(t, "^", Bits("^", a, b), of(int(int32(x^y))))
			want(t, "<<", Bits("<<", a, b), of(int(int32(x<<(y%32)))))
			want(t, ">>", Bits(">>", a, b), of(int(int32(x)>>(y%32))))
		}
	}
}

func TestText(t *testing.T) { // P1.5
	for _, x := range []struct {
		n    int
		want string
	}{{0, "0"}, {7, "7"}, {-10, "-10"}, {most, "9007199254740992"}, {-most, "-9007199254740992"}} {
		if got := Text(of(x.n)); got != x.want {
			t.Errorf("got %s, want %s", got, x.want)
		}
	}
	for _, v := range append(strangers(), none) {
		if got := Text(v); got != "NaN" {
			t.Errorf("Text of %v: %s", v, got)
		}
	}
}

func TestReadNumbers(t *testing.T) { // P1.5
	for _, x := range []struct {
		s    string
		want int
	}{
		{"", 0}, {" ", 0}, {"\t\n\r ", 0}, {"0", 0}, {"-0", 0}, {"+0", 0}, {"7", 7}, {"+7", 7}, {"-7", -7},
		{"007", 7}, {"-007", -7}, {" \t\r\n12\n\r\t ", 12}, {strings.Repeat("0", 99) + "12", 12}, {"1234567890", 1234567890},
		{"9007199254740992", most}, {"-9007199254740992", -most}, {"+9007199254740992", most},
		{"0x0", 0}, {"0xa", 10}, {"0XA", 10}, {" 0x1F", 31}, {"0x1f\n", 31}, {"0xabcdef", 0xabcdef}, {"0XABCDEF", 0xabcdef},
		{"0x0000000000000000000012", 18}, {"0x20000000000000", most}, {"0x0123456789", 0x123456789},
	} {
		want(t, strconv.Quote(x.s), Read(x.s), of(x.want))
	}
}

func TestReadOtherTexts(t *testing.T) { // P1.5
	for _, s := range []string{
		"NaN", "a", "+", "-", "+-1", "--1", "- 1", "1 2", "1-", "1.5", "1e3", "1_000", "0b1", "0o7", "1a", "a1", "/", ":",
		"0x", "0X", " -0x1", "+0x1", "0x 1", "0xg", "0x@", "0xG", "0x`", "0x-1", "00x1", "1x1", "0xx1", "x1",
		"9007199254740993", "-9007199254740993", "0x20000000000001", "18446744073709551616", "18446744073709551617",
		"0x10000000000000000", "0x10000000000000001", strings.Repeat("9", 400), strings.Repeat("9", 400) + "z",
		"\v1", "1\v", "\f1", "1\x00", "\x001", "\u00a01", "1\xa0", "\xff", "\u0661",
	} {
		want(t, strconv.Quote(s), Read(s), none)
	}
}

func TestOnlyNumbers(t *testing.T) { // P1.6
	for _, a := range values() {
		for _, b := range values() {
			for _, v := range []api.Value{Of(a.N), Add(a, b), Sub(a, b), Mul(a, b), Div(a, b), Rem(a, b), Neg(a), Bits("&", a, b), Bits("<<", a, b), Bits("?", a, b), Read(a.S)} {
				if v != none && !known(v) {
					t.Fatalf("of %v and %v: %v", a, b, v)
				}
			}
		}
	}
}

func TestReadOfText(t *testing.T) { // P1.6
	for _, v := range values() {
		if known(v) || v == none {
			want(t, Text(v), Read(Text(v)), v)
		}
	}
}

func TestQuotientAndRest(t *testing.T) { // P1.6
	for _, a := range values() {
		for _, b := range values() {
			if known(a) && known(b) && b.N != 0 {
				want(t, "b * Div + Rem", Add(Mul(b, Div(a, b)), Rem(a, b)), a)
			}
		}
	}
}
