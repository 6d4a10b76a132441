package lex

import "strings"

const hexDigits = "0123456789abcdef"

// Quote is s between quotes, in bytes from 32 to 126 alone.
func Quote(s string) string {
	var out strings.Builder
	out.WriteByte('"')
	for i := range len(s) {
		b := s[i]
		switch {
		case !isPrinted(b):
			out.WriteString(`\x`)
			out.WriteByte(hexDigits[b>>4])
			out.WriteByte(hexDigits[b&15])
		case b == '"' || b == '\\':
			out.WriteByte('\\')
			out.WriteByte(b)
		default:
			out.WriteByte(b)
		}
	}
	out.WriteByte('"')
	return out.String()
}

// Unquote is the text whose Quote s is; false, if there is none.
func Unquote(s string) (string, bool) {
	if len(s) < 2 || s[0] != '"' || s[len(s)-1] != '"' {
		return "", false
	}
	var out strings.Builder
	for rest := s[1 : len(s)-1]; rest != ""; {
		b, used := firstByte(rest)
		if used == 0 {
			return "", false
		}
		out.WriteByte(b)
		rest = rest[used:]
	}
	return out.String(), true
}

// firstByte is the first byte that s, of the inside of a quote, stands for, and how many of s's bytes say it; 0, if Quote writes no byte so.
func firstByte(s string) (byte, int) {
	switch {
	case s[0] != '\\':
		if s[0] == '"' || !isPrinted(s[0]) {
			return 0, 0
		}
		return s[0], 1
	case len(s) < 2:
		return 0, 0
	case s[1] == '"' || s[1] == '\\':
		return s[1], 2
	case s[1] == 'x' && len(s) >= 4:
		return hexByte(s[2], s[3])
	}
	return 0, 0
}

// hexByte is firstByte of \x and two digits: a byte that can be written as itself is not written so.
func hexByte(high, low byte) (byte, int) {
	h, l := strings.IndexByte(hexDigits, high), strings.IndexByte(hexDigits, low)
	if h < 0 || l < 0 {
		return 0, 0
	}
	b := byte(h<<4 | l)
	if isPrinted(b) {
		return 0, 0
	}
	return b, 4
}

func isPrinted(b byte) bool { return b >= 32 && b <= 126 }
