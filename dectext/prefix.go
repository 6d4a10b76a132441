package dectext

// Prefix is how many of s's first bytes are the longest beginning that is a decimal text; 0, if none is.
func Prefix(s string) int {
	at, end := 0, 0
	// Behind a - no text ends while its digits are all 0.
	nought := false
	if byteAt(s, at) == '-' {
		goto sign
	}
	goto first

sign:
	nought = true
	at++
	goto first

first:
	if byteAt(s, at) == '0' {
		at++
		goto ahead
	}
	if isDigit(byteAt(s, at)) {
		goto whole
	}
	return end

whole:
	nought = false
	at++
	if isDigit(byteAt(s, at)) {
		goto whole
	}
	goto ahead

ahead:
	if !nought {
		end = at
	}
	if byteAt(s, at) == '.' && isDigit(byteAt(s, at+1)) {
		at++
		goto behind
	}
	return end

behind:
	if byteAt(s, at) != '0' {
		nought = false
	}
	at++
	if !nought {
		end = at
	}
	if isDigit(byteAt(s, at)) {
		goto behind
	}
	return end
}

// isDecimal tells whether all of s is a decimal text.
func isDecimal(s string) bool { return s != "" && Prefix(s) == len(s) }

// byteAt is s's byte at a place; behind its end 0, which no decimal text has.
func byteAt(s string, at int) byte {
	if at < len(s) {
		return s[at]
	}
	return 0
}

func isDigit(b byte) bool { return b >= '0' && b <= '9' }
