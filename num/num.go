// Package num is layer 1: integers of 53 bits and NaN: arithmetic, comparison, decimal text. See shared/doc/01-num.md.
package num

import (
	"pantomime/api"
	"strconv"
	"strings"
)

// In reports whether n is in the range of numbers.
func In(n int) bool { return -api.MaxInt <= n && n <= api.MaxInt }

// Of returns the number n, or NaN if n is out of range.
func Of(n int) api.Value {
	if !In(n) {
		return nan()
	}
	return api.Value{Kind: api.Num, N: n}
}

// Is reports whether v is a number; NaN in its plain form is one.
func Is(v api.Value) bool {
	_, known := whole(v)
	return known || v == nan()
}

// Add returns the sum of a and b.
func Add(a, b api.Value) api.Value {
	x, y, known := pair(a, b)
	if !known {
		return nan()
	}
	return Of(x + y)
}

// Sub returns a less b.
func Sub(a, b api.Value) api.Value {
	x, y, known := pair(a, b)
	if !known {
		return nan()
	}
	return Of(x - y)
}

// Mul returns the product of a and b.
func Mul(a, b api.Value) api.Value {
	x, y, known := pair(a, b)
	// Asked ahead of multiplying, because a product of two numbers can exceed an int and wrap back into the range.
	if !known || x != 0 && size(y) > api.MaxInt/size(x) {
		return nan()
	}
	return Of(x * y)
}

// Div returns the quotient of a and b, truncated towards zero, or NaN if b is 0.
func Div(a, b api.Value) api.Value {
	x, y, known := pair(a, b)
	if !known || y == 0 {
		return nan()
	}
	return Of(x / y)
}

// Rem returns what Div leaves of a, or NaN if b is 0.
func Rem(a, b api.Value) api.Value {
	x, y, known := pair(a, b)
	if !known || y == 0 {
		return nan()
	}
	return Of(x % y)
}

// Neg returns 0 - a.
func Neg(a api.Value) api.Value { return Sub(Of(0), a) }

// Less returns whether a is less than b; known is false if either is NaN.
func Less(a, b api.Value) (less, known bool) {
	x, y, known := pair(a, b)
	return known && x < y, known
}

// Bits applies a bit operation to the low words of a and b. An unknown op gives NaN.
func Bits(op string, a, b api.Value) api.Value {
	x, y := low(a), low(b)
	switch op {
	case "&":
		return Of(int(x & y))
	case "|":
		return Of(int(x | y))
	case "^":
		return Of(int(x ^ y))
	case "<<":
		return Of(int(x << shift(y)))
	case ">>":
		return Of(int(x >> shift(y)))
	}
	return nan()
}

// Text returns the decimal form of v, and "NaN" for every value that has none.
func Text(v api.Value) string {
	n, known := whole(v)
	if !known {
		return "NaN"
	}
	return strconv.Itoa(n)
}

// Read converts a text, between optional white space, to a number.
func Read(s string) api.Value {
	s = strings.Trim(s, "\t\n\r ")
	if s == "" {
		return Of(0)
	}
	if strings.HasPrefix(s, "0x") || strings.HasPrefix(s, "0X") {
		return digits(s[2:], 16)
	}
	switch s[0] {
	case '+':
		return digits(s[1:], 10)
	case '-':
		return Neg(digits(s[1:], 10))
	}
	return digits(s, 10)
}

// digits converts one or more digits of a base to a number; any other text gives NaN.
func digits(s string, base int) api.Value {
	if s == "" {
		return nan()
	}
	n := 0
	for i := range len(s) {
		d := digit(s[i])
		if d >= base {
			return nan()
		}
		n = n*base + d
		// Asked at each digit, because n of a long text would wrap round.
		if !In(n) {
			return nan()
		}
	}
	return Of(n)
}

// digit returns the value of a hexadecimal digit, and 16, a digit of no base in use, for any other byte.
func digit(c byte) int {
	switch {
	case '0' <= c && c <= '9':
		return int(c - '0')
	case 'a' <= c && c <= 'f':
		return int(c-'a') + 10
	case 'A' <= c && c <= 'F':
		return int(c-'A') + 10
	}
	return 16
}

func nan() api.Value { return api.Value{Kind: api.NaN} }

// whole returns the integer that v is; known is false for NaN and for every value that counts as NaN.
func whole(v api.Value) (n int, known bool) {
	if v.Kind != api.Num || v.S != "" || !In(v.N) {
		return 0, false
	}
	return v.N, true
}

// pair returns the integers that a and b are; known is false unless both are.
func pair(a, b api.Value) (x, y int, known bool) {
	x, one := whole(a)
	y, two := whole(b)
	return x, y, one && two
}

func size(n int) int {
	if n < 0 {
		return -n
	}
	return n
}

// low returns the low word of v, which is 0 for NaN.
func low(v api.Value) int32 {
	n, _ := whole(v)
	return int32(n)
}

// shift returns the shift count that a low word stands for.
func shift(word int32) int { return int(word & 31) }
