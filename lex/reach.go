package lex

import (
	"strings"

	"excise/api"
	"excise/dectext"
)

// Blank is the place behind all blanks that stand from at on; at itself, if there is no such place in the text.
func Blank(text string, at int) int {
	if at < 0 || at > len(text) {
		return at
	}

blank:
	switch byteAt(text, at) {
	case ' ', '\t', '\n', '\r':
		at++
		goto blank
	case '/':
		goto comment
	}
	return at

comment:
	// A / alone is no blank; it stays for Next to refuse.
	if byteAt(text, at+1) != '/' {
		return at
	}
	line := strings.IndexByte(text[at:], '\n')
	if line < 0 {
		return len(text)
	}
	at += line + 1
	goto blank
}

// reach tells of which kind the word at a place of the text would be, by its first byte, and where it ends; it ends at once, if a text has no end.
func reach(text string, at int) (int, int) {
	end := at
	switch first := text[at]; {
	case isLetter(first):
		goto name
	case isDigit(first):
		goto number
	case first == '"':
		goto quoted
	}
	goto symbol

name:
	end++
	if next := byteAt(text, end); isLetter(next) || isDigit(next) {
		goto name
	}
	return api.TkName, end

number:
	return api.TkNum, at + dectext.Prefix(text[at:])

quoted:
	end++
	switch {
	case end >= len(text):
		return api.TkText, at
	case text[end] == '\\':
		// It takes the byte behind it with it, a " too.
		end++
		goto quoted
	case text[end] != '"':
		goto quoted
	}
	return api.TkText, end + 1

symbol:
	if at+2 <= len(text) && Symbol(text[at:at+2]) {
		return api.TkSym, at + 2
	}
	return api.TkSym, at + 1
}

// byteAt is the text's byte at a place; behind its end 0, which is neither a blank nor of any word.
func byteAt(text string, at int) byte {
	if at < len(text) {
		return text[at]
	}
	return 0
}

func isLetter(b byte) bool { return b >= 'a' && b <= 'z' || b >= 'A' && b <= 'Z' || b == '_' }

func isDigit(b byte) bool { return b >= '0' && b <= '9' }
