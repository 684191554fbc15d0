// Package literal is layer 2: string and template literals, identifiers, reserved words. See shared/doc/02-literal.md.
package literal

import (
	"pantomime/api"
	"strings"
)

// Quote returns the canonical double-quoted literal for s.
func Quote(s string) string {
	var b strings.Builder
	b.WriteByte('"')
	for i := range len(s) {
		quoteByte(&b, s[i])
	}
	b.WriteByte('"')
	return b.String()
}

// quoteByte writes c as it stands in a canonical literal.
func quoteByte(b *strings.Builder, c byte) {
	switch {
	case short(c) != 0:
		b.WriteByte('\\')
		b.WriteByte(short(c))
	case 32 <= c && c <= 126:
		b.WriteByte(c)
	default:
		const hex = "0123456789abcdef"
		b.WriteString("\\x")
		b.WriteByte(hex[c>>4])
		b.WriteByte(hex[c&15])
	}
}

// short returns the byte that follows the backslash where a canonical literal writes c as an escape of two bytes, and 0 elsewhere.
func short(c byte) byte {
	switch c {
	case '\n':
		return 'n'
	case '\t':
		return 't'
	case '\r':
		return 'r'
	case 0:
		return '0'
	case '"', '\\':
		return c
	}
	return 0
}

// Read parses the string literal whose opening quote is at offset at and returns its value and the offset behind it.
func Read(s string, at int) (text string, next int, e api.Errno) {
	if !holds(s, at, '\'', '"') {
		return "", 0, api.ErrArg
	}
	var b strings.Builder
	for i := at + 1; i < len(s); {
		if s[i] == s[at] {
			return b.String(), i + 1, api.OK
		}
		if s[i] == '\n' || s[i] == '\r' {
			return "", 0, api.ErrToken
		}
		if i, e = add(&b, s, i); e != api.OK {
			return "", 0, e
		}
	}
	return "", 0, api.ErrEnd
}

// Piece parses the template piece behind the backquote or closing brace at offset at; open tells that it ended with ${.
func Piece(s string, at int) (text string, next int, open bool, e api.Errno) {
	if !holds(s, at, '`', '}') {
		return "", 0, false, api.ErrArg
	}
	var b strings.Builder
	for i := at + 1; i < len(s); {
		if s[i] == '`' {
			return b.String(), i + 1, false, api.OK
		}
		if strings.HasPrefix(s[i:], "${") {
			return b.String(), i + 2, true, api.OK
		}
		if i, e = add(&b, s, i); e != api.OK {
			return "", 0, false, e
		}
	}
	return "", 0, false, api.ErrEnd
}

// holds reports whether one of two bytes is at offset at of s.
func holds(s string, at int, one, other byte) bool {
	return 0 <= at && at < len(s) && (s[at] == one || s[at] == other)
}

// add appends to b what the byte or escape sequence at offset at of s denotes, and returns the offset behind it.
func add(b *strings.Builder, s string, at int) (next int, e api.Errno) {
	c, next := s[at], at+1
	if c == '\\' {
		if c, next, e = escape(s, next); e != api.OK {
			return 0, e
		}
	}
	// Asked behind the escape, because a malformed one is told ahead of a value that is too long.
	if b.Len() == api.MaxText {
		return 0, api.ErrLong
	}
	b.WriteByte(c)
	return next, api.OK
}

// escape decodes the escape sequence whose backslash lies just before offset at and returns its byte and the offset behind it.
func escape(s string, at int) (c byte, next int, e api.Errno) {
	if at >= len(s) {
		return 0, 0, api.ErrEnd
	}
	switch c = s[at]; c {
	case 'n', 't', 'r', '0':
		c = control(c)
		fallthrough
	case '\\', '\'', '"', '`', '$':
		return c, at + 1, api.OK
	case 'x':
		return pair(s, at+1)
	}
	return 0, 0, api.ErrEscape
}

// control returns the control byte that the letter of an escape sequence stands for; the one beside n, t and r is 0.
func control(letter byte) byte {
	switch letter {
	case 'n':
		return '\n'
	case 't':
		return '\t'
	case 'r':
		return '\r'
	}
	return 0
}

// pair decodes the two hexadecimal digits at offset at and returns their byte and the offset behind them.
func pair(s string, at int) (c byte, next int, e api.Errno) {
	for next = at; next < at+2; next++ {
		if next >= len(s) {
			return 0, 0, api.ErrEnd
		}
		d, known := digit(s[next])
		if !known {
			return 0, 0, api.ErrEscape
		}
		c = c<<4 | d
	}
	return c, next, api.OK
}

// digit returns the value of a hexadecimal digit; known is false for any other byte.
func digit(c byte) (d byte, known bool) {
	switch {
	case isDigit(c):
		return c - '0', true
	case 'a' <= c && c <= 'f':
		return c - 'a' + 10, true
	case 'A' <= c && c <= 'F':
		return c - 'A' + 10, true
	}
	return 0, false
}

// Name returns the longest identifier at offset at and the offset behind it, or "" and 0 if there is none.
func Name(s string, at int) (name string, next int) {
	if at < 0 || at >= len(s) || !isLetter(s[at]) {
		return "", 0
	}
	next = at + 1
	for next < len(s) && (isLetter(s[next]) || isDigit(s[next])) {
		next++
	}
	return s[at:next], next
}

// IsName reports whether s is an identifier that is not always reserved.
func IsName(s string) bool {
	name, _ := Name(s, 0)
	return s != "" && name == s && Word(s) != 1
}

// Word returns 1 if s is always reserved, 2 if it is reserved in strict code only, and 0 otherwise.
func Word(s string) int {
	switch s {
	case "break", "case", "catch", "class", "const", "continue", "debugger", "default", "delete", "do",
		"else", "enum", "export", "extends", "false", "finally", "for", "function", "if", "import",
		"in", "instanceof", "new", "null", "return", "super", "switch", "this", "throw", "true",
		"try", "typeof", "var", "void", "while", "with":
		return 1
	case "implements", "interface", "let", "package", "private", "protected", "public", "static", "yield":
		return 2
	}
	return 0
}

func isLetter(c byte) bool {
	return 'a' <= c && c <= 'z' || 'A' <= c && c <= 'Z' || c == '_' || c == '$'
}

func isDigit(c byte) bool { return '0' <= c && c <= '9' }
