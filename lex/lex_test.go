package lex_test

import (
	"fmt"
	"math"
	"math/rand/v2"
	"regexp"
	"slices"
	"strconv"
	"strings"
	"testing"

	"excise/api"
	"excise/dectext"
	"excise/lex"
)

const letters = "abcdefghijklmnopqrstuvwxyzABCDEFGHIJKLMNOPQRSTUVWXYZ_"

var (
	symbols = strings.Fields("{ } ( ) , ; : . = != < <= > >= + - *")

	blanks = regexp.MustCompile(`\A(?:[ \t\n\r]|//[^\n]*(?:\n|\z))*`)
	named  = regexp.MustCompile(`\A[A-Za-z_][A-Za-z0-9_]*`)
	figure = regexp.MustCompile(`\A(?:0|[1-9][0-9]*)(?:\.[0-9]+)?`)
	within = regexp.MustCompile(`(?s)\A"(?:[^"\\]|\\.)*"`)
	signed = regexp.MustCompile(`\A(?:!=|<=|>=|[{}(),;:.=<>+*-])`)
	quoted = regexp.MustCompile(`\A"(?:[ !#-\[\]-~]|\\["\\]|\\x(?:[01][0-9a-f]|7f|[89a-f][0-9a-f]))*"\z`)
)

// blankTo is what the chapter says of Blank.
func blankTo(text string, at int) int {
	if at < 0 || at > len(text) {
		return at
	}
	return at + len(blanks.FindString(text[at:]))
}

// meant is the text whose quote s is, by the library's own reading of such quotes; false, if there is none.
func meant(s string) (string, bool) {
	if !quoted.MatchString(s) {
		return "", false
	}
	text, err := strconv.Unquote(s)
	return text, err == nil
}

// next is what the chapter says of Next.
func next(text string, at int) (api.Token, api.Errno) {
	if at < 0 || at >= len(text) {
		return api.Token{}, api.ErrNone
	}
	rest := text[at:]
	if s := named.FindString(rest); s != "" && len(s) <= 32 {
		return api.Token{Kind: 1, Text: s, At: at}, api.OK
	}
	if s := figure.FindString(rest); s != "" {
		if d, e := dectext.Parse(s); e == api.OK {
			return api.Token{Kind: 2, Text: s, Value: api.Value{Kind: 1, Num: d}, At: at}, api.OK
		}
	}
	if s := within.FindString(rest); s != "" {
		if v, ok := meant(s); ok && len(v) <= 64 {
			return api.Token{Kind: 3, Text: s, Value: api.Value{Kind: 3, Text: v}, At: at}, api.OK
		}
	}
	if s := signed.FindString(rest); s != "" {
		return api.Token{Kind: 4, Text: s, At: at}, api.OK
	}
	return api.Token{}, 70
}

// scan is what the chapter says of Scan.
func scan(text string) ([]api.Token, int, api.Errno) {
	if len(text) > 1<<14 {
		return nil, 0, api.ErrLong
	}
	var list []api.Token
	for at := blankTo(text, 0); at < len(text); {
		word, e := next(text, at)
		if e != api.OK {
			return nil, at, e
		}
		list = append(list, word)
		at = blankTo(text, at+len(word.Text))
	}
	return list, 0, api.OK
}

// texts hands on all texts of at most n of the bytes.
func texts(bytes string, n int, visit func(s string)) {
	visit("")
	if n == 0 {
		return
	}
	for i := range len(bytes) {
		texts(bytes, n-1, func(s string) {
			visit(bytes[i:i+1] + s)
		})
	}
}

// anyText is up to n parts, most of which are words or beginnings of some.
func anyText(r *rand.Rand, parts []string, n int) string {
	var out strings.Builder
	for range r.IntN(n + 1) {
		out.WriteString(parts[r.IntN(len(parts))])
	}
	return out.String()
}

// pieces are what made-up texts are made of.
func pieces() []string {
	list := append([]string{" ", " ", "\n", "\t", "\r", " // all\n", "//\n", "/* x", "/", "a", "b7", "_", "field", "half_up", "Z9_", strings.Repeat("n", 32), strings.Repeat("n", 31),
		"0", "00", "1", "1.50", "12.", "007", "0.000000000000000001", "1.0000000000000000000", strings.Repeat("9", 77), strings.Repeat("9", 78),
		`""`, `"q"`, `"q\""`, `"\\"`, `"\x00\xff"`, `"//"`, `" "`, `"`, `\`, `\x`, "!", "#", "&", "\x00", "\x7f", "\xff", "é"}, symbols...)
	for _, s := range symbols {
		list = append(list, s, s)
	}
	return list
}

// goodPieces are those that no error comes of, however they stand.
func goodPieces() []string {
	list := append([]string{" ", "\n", "\t\r", " // all\n", "//\"\n", "a ", "b7", "_ ", "half_up ", "0", "00", "1 ", "1.50 ", "007", "0.000000000000000001 ",
		`""`, `"q"`, `"q\""`, `"\\"`, `"\x00\xff"`, `"//"`, `" "`}, symbols...)
	for range 5 {
		list = append(list, "x ", "10 ", " ")
	}
	return list
}

// checkScan holds Scan against what the chapter says, and the words it answers against the promises that follow.
func checkScan(t *testing.T, text string) {
	t.Helper()
	want, wantAt, wantErr := scan(text)
	got, at, e := lex.Scan(text)
	if !slices.Equal(got, want) || at != wantAt || e != wantErr {
		t.Errorf("Scan(%q): %v %d %v, not %v %d %v", text, got, at, e, want, wantAt, wantErr)
		return
	}
	if e != api.OK {
		return
	}
	checkPlaces(t, text, got)
	checkThereAndBack(t, got)
}

// checkPlaces holds P7.5.
func checkPlaces(t *testing.T, text string, words []api.Token) {
	t.Helper()
	end := 0
	gap := func(to int) {
		if end > to || lex.Blank(text, end) != to {
			t.Errorf("Scan(%q): from %d to %d there are not blanks alone", text, end, to)
		}
	}
	for _, word := range words {
		gap(word.At)
		if word.Text == "" || !strings.HasPrefix(text[word.At:], word.Text) {
			t.Errorf("Scan(%q): %q does not stand at %d", text, word.Text, word.At)
		}
		end = word.At + len(word.Text)
	}
	gap(len(text))
}

// checkThereAndBack holds P7.4.
func checkThereAndBack(t *testing.T, words []api.Token) {
	t.Helper()
	joined := lex.Join(words...)
	again, _, e := lex.Scan(joined)
	if len(joined) > api.MaxSource {
		if e != api.ErrLong {
			t.Errorf("Scan of a Join of %d bytes: %v", len(joined), e)
		}
		return
	}
	if e != api.OK || len(again) != len(words) {
		t.Errorf("Scan(%q): %d words, %v, not %d", joined, len(again), e, len(words))
		return
	}
	at := 0
	for i, word := range words {
		word.At = at
		if again[i] != word {
			t.Errorf("Scan(%q): %v, not %v", joined, again[i], word)
		}
		at += len(word.Text) + 1
	}
}

// P7.1.
func TestBlank(t *testing.T) {
	for _, c := range []struct {
		text     string
		at, want int
	}{
		{"", 0, 0}, {"", 1, 1}, {"", -1, -1}, {"", math.MinInt, math.MinInt}, {"", math.MaxInt, math.MaxInt},
		{"a", 0, 0}, {"a", 1, 1}, {"a", 2, 2}, {" ", 1, 1}, {" ", 2, 2}, {" ", -1, -1},
		{" \t\n\r", 0, 4}, {" \t\n\ra", 0, 4}, {" \t\n\ra", 2, 4}, {"a \t\n\r", 0, 0}, {"a \t\n\r", 1, 5}, {"a \t\n\r", 5, 5}, {"a \t\n\r", 6, 6},
		{"//", 0, 2}, {"// x", 0, 4}, {"// x\n", 0, 5}, {"// x\n ", 0, 6}, {"// x\na", 0, 5}, {"// x\r a", 0, 7}, {"//\n//\n//", 0, 8}, {"//\n//\n/", 0, 6},
		{"/", 0, 0}, {" /", 0, 1}, {"/ /", 0, 0}, {"/\n/", 0, 0}, {"///", 0, 3}, {"///", 1, 3}, {"///", 2, 2}, {"///", 3, 3}, {"//a//b\nc", 1, 1}, {"//a//b\nc", 3, 7},
		{" //x\n  y", 0, 7}, {"/*x*/", 0, 0}, {"\v\f", 0, 0}, {"\u00a0", 0, 0}, {"\"//\"", 0, 0}, {"\"//\"", 1, 4},
	} {
		if got := lex.Blank(c.text, c.at); got != c.want {
			t.Errorf("Blank(%q, %d): %d, not %d", c.text, c.at, got, c.want)
		}
	}
	for b := range 256 {
		for _, text := range []string{string([]byte{byte(b)}), string([]byte{byte(b), byte(b), 'x'}), string([]byte{' ', byte(b), ' '}), string([]byte{'/', '/', byte(b), 'x'})} {
			if got, want := lex.Blank(text, 0), blankTo(text, 0); got != want {
				t.Errorf("Blank(%q, 0): %d, not %d", text, got, want)
			}
		}
	}
	texts(" \t\n\r/a", 5, func(s string) {
		for at := -2; at <= len(s)+2; at++ {
			if got, want := lex.Blank(s, at), blankTo(s, at); got != want {
				t.Errorf("Blank(%q, %d): %d, not %d", s, at, got, want)
			}
		}
	})
	if long := strings.Repeat(" //\n", 1<<18); lex.Blank(long, 0) != len(long) {
		t.Error("Blank of many blanks")
	}
}

// P7.1.
func TestName(t *testing.T) {
	for _, s := range []string{"a", "Z", "_", "z", "A", "a0", "_9", "half_up", "aZ_09", "__", strings.Repeat("n", 32), "_" + strings.Repeat("9", 31)} {
		if !lex.Name(s) {
			t.Errorf("Name(%q): false", s)
		}
	}
	for _, s := range []string{"", "0", "9a", " a", "a ", "a-b", "a.b", "é", "aé", "a\x00", "\"a\"", strings.Repeat("n", 33), strings.Repeat("n", 1000)} {
		if lex.Name(s) {
			t.Errorf("Name(%q): true", s)
		}
	}
	for b := range 256 {
		one := string([]byte{byte(b)})
		first := strings.Contains(letters, one)
		behind := strings.Contains(letters+"0123456789", one)
		if lex.Name(one) != first || lex.Name(one+"x") != first || lex.Name("x"+one) != behind || lex.Name("x"+one+"x") != behind {
			t.Errorf("Name with %q: not first %v, behind %v", one, first, behind)
		}
	}
}

// P7.1.
func TestSymbol(t *testing.T) {
	check := func(s string) {
		if got, want := lex.Symbol(s), slices.Contains(symbols, s); got != want {
			t.Errorf("Symbol(%q): %v", s, got)
		}
	}
	check("")
	for a := range 256 {
		check(string([]byte{byte(a)}))
		for b := range 256 {
			check(string([]byte{byte(a), byte(b)}))
		}
	}
	for _, a := range symbols {
		for _, b := range symbols {
			check(a + " " + b)
			check(a + b + "=")
		}
	}
}

// P7.1.
func TestQuote(t *testing.T) {
	for _, c := range []struct{ s, want string }{
		{"", `""`}, {"q", `"q"`}, {`q"`, `"q\""`}, {`\`, `"\\"`}, {`\"`, `"\\\""`}, {`""`, `"\"\""`}, {" ", `" "`}, {"~", `"~"`}, {"'", `"'"`}, {"//", `"//"`},
		{"\x00", `"\x00"`}, {"\n", `"\x0a"`}, {"\x1f", `"\x1f"`}, {"\x7f", `"\x7f"`}, {"\x80", `"\x80"`}, {"\xff", `"\xff"`}, {"é", `"\xc3\xa9"`}, {"\x1b0", `"\x1b0"`}, {`\x00`, `"\\x00"`},
	} {
		if got := lex.Quote(c.s); got != c.want {
			t.Errorf("Quote(%q): %s, not %s", c.s, got, c.want)
		}
	}
	for b := range 256 {
		want := fmt.Sprintf("%c", b)
		if b < 32 || b > 126 {
			want = fmt.Sprintf("\\x%02x", b)
		} else if b == 34 || b == 92 {
			want = fmt.Sprintf("\\%c", b)
		}
		if got := lex.Quote("a" + string([]byte{byte(b)}) + "z"); got != "\"a"+want+"z\"" {
			t.Errorf("Quote of the byte %d: %s, not %s", b, got, want)
		}
	}
}

// checkUnquote holds Unquote against what the chapter says, and against Quote (P7.6).
func checkUnquote(t *testing.T, s string) {
	t.Helper()
	want, wantOk := meant(s)
	got, ok := lex.Unquote(s)
	if got != want || ok != wantOk {
		t.Errorf("Unquote(%q): %q %v, not %q %v", s, got, ok, want, wantOk)
	}
	if ok && lex.Quote(got) != s {
		t.Errorf("Quote(Unquote(%q)): %s", s, lex.Quote(got))
	}
}

// P7.1.
func TestUnquote(t *testing.T) {
	for _, s := range []string{"", `"`, `\`, `a`, `"a`, `a"`, `"\"`, `"\\\"`, `"""`, `"a"b"`, `""a`, `a""`, ` ""`, `"" `, `''`, `"\`, `"\x`, `"\x"`, `"\x0"`, `"\x0g"`, `"\xg0"`,
		`"\x0A"`, `"\xFF"`, `"\xfF"`, `"\xFf"`, `"\X00"`, `"\x41"`, `"\x20"`, `"\x7e"`, `"\x22"`, `"\x5c"`, `"\n"`, `"\t"`, `"\a"`, `"\q"`, `"\0"`, `"\000"`, `"\u0041"`, `"\'"`, `"\x "`, `"\x0\"`, `"\x\x00"`,
		"\"\x00\"", "\"\n\"", "\"\x1f\"", "\"\x7f\"", "\"\x80\"", "\"\xff\"", "\"é\""} {
		if got, ok := lex.Unquote(s); ok || got != "" {
			t.Errorf("Unquote(%q): %q, %v", s, got, ok)
		}
		checkUnquote(t, s)
	}
	for _, c := range []struct{ s, want string }{{`""`, ""}, {`"q\""`, `q"`}, {`"\\\\"`, `\\`}, {`"\x00\x1f\x7f\x80\xff"`, "\x00\x1f\x7f\x80\xff"}, {`"\\x00"`, `\x00`}, {`" ~"`, " ~"}} {
		if got, ok := lex.Unquote(c.s); !ok || got != c.want {
			t.Errorf("Unquote(%q): %q, %v", c.s, got, ok)
		}
	}
	for b := range 256 {
		one := string([]byte{byte(b)})
		for _, s := range []string{one, "\"" + one, one + "\"", "\"" + one + "\"", "\"\\" + one + "\"", "\"\\x0" + one + "\"", "\"\\x" + one + "0\"", "\"\\x8" + one + "\"", "\"\\x" + one + "f\"", "\"a" + one + "\"", "\"" + one + "a\""} {
			checkUnquote(t, s)
		}
		for _, form := range []string{"\"\\x%02x\"", "\"\\x%02X\"", "\"\\x%x\"", "\"\\X%02x\""} {
			checkUnquote(t, fmt.Sprintf(form, b))
		}
	}
	texts(`"\x07fa`, 6, func(s string) {
		checkUnquote(t, "\""+s)
		checkUnquote(t, "\""+s+"\"")
	})
}

// P7.6.
func TestQuoteThereAndBack(t *testing.T) {
	r := rand.New(rand.NewPCG(7, 6))
	for range 20000 {
		bytes := make([]byte, r.IntN(40))
		for i := range bytes {
			bytes[i] = byte(r.IntN(256))
			if r.IntN(3) == 0 {
				bytes[i] = "\"\\x07"[r.IntN(5)]
			}
		}
		s := string(bytes)
		if back, ok := lex.Unquote(lex.Quote(s)); !ok || back != s {
			t.Fatalf("Unquote(Quote(%q)): %q %v", s, back, ok)
		}
		checkUnquote(t, s)
		checkUnquote(t, "\""+s+"\"")
	}
	long := strings.Repeat("\x00\"a", 1<<18)
	if back, ok := lex.Unquote(lex.Quote(long)); !ok || back != long {
		t.Error("Unquote of Quote of a long text")
	}
}

func checkNext(t *testing.T, text string, at int) {
	t.Helper()
	want, wantErr := next(text, at)
	if got, e := lex.Next(text, at); got != want || e != wantErr {
		t.Errorf("Next(%q, %d): %v %v, not %v %v", text, at, got, e, want, wantErr)
	}
}

// P7.2.
func TestNext(t *testing.T) {
	number := func(s string) api.Value {
		d, e := dectext.Parse(s)
		if e != api.OK {
			panic(s)
		}
		return api.Value{Kind: api.VNum, Num: d}
	}
	text := func(s string) api.Value { return api.Value{Kind: api.VText, Text: s} }
	for _, c := range []struct {
		text string
		at   int
		want api.Token
	}{
		{"a<=b", 0, api.Token{Kind: api.TkName, Text: "a"}},
		{"a<=b", 1, api.Token{Kind: api.TkSym, Text: "<=", At: 1}},
		{"a<=b", 2, api.Token{Kind: api.TkSym, Text: "=", At: 2}},
		{"a<=b", 3, api.Token{Kind: api.TkName, Text: "b", At: 3}},
		{"half_up", 4, api.Token{Kind: api.TkName, Text: "_up", At: 4}},
		{"a1 ", 1, api.Token{Kind: api.TkNum, Text: "1", Value: number("1"), At: 1}},
		{"12.50", 0, api.Token{Kind: api.TkNum, Text: "12.50", Value: number("12.50")}},
		{"12.50", 1, api.Token{Kind: api.TkNum, Text: "2.50", Value: number("2.50"), At: 1}},
		{"12.50", 2, api.Token{Kind: api.TkSym, Text: ".", At: 2}},
		{"12.", 0, api.Token{Kind: api.TkNum, Text: "12", Value: number("12")}},
		{"1.5.2", 0, api.Token{Kind: api.TkNum, Text: "1.5", Value: number("1.5")}},
		{"1e5", 0, api.Token{Kind: api.TkNum, Text: "1", Value: number("1")}},
		{"007", 0, api.Token{Kind: api.TkNum, Text: "0", Value: number("0")}},
		{"0.0", 0, api.Token{Kind: api.TkNum, Text: "0.0", Value: number("0.0")}},
		{"-1", 0, api.Token{Kind: api.TkSym, Text: "-"}},
		{`"a""b"`, 0, api.Token{Kind: api.TkText, Text: `"a"`, Value: text("a")}},
		{`"a""b"`, 2, api.Token{Kind: api.TkText, Text: `""`, Value: text(""), At: 2}},
		{`"a\"b"`, 0, api.Token{Kind: api.TkText, Text: `"a\"b"`, Value: text(`a"b`)}},
		{`"a\\"b"`, 0, api.Token{Kind: api.TkText, Text: `"a\\"`, Value: text(`a\`)}},
		{`"//"x`, 0, api.Token{Kind: api.TkText, Text: `"//"`, Value: text("//")}},
		{`"\x0a"`, 0, api.Token{Kind: api.TkText, Text: `"\x0a"`, Value: text("\n")}},
		{"<==", 0, api.Token{Kind: api.TkSym, Text: "<="}},
		{"<", 0, api.Token{Kind: api.TkSym, Text: "<"}},
		{"<>", 0, api.Token{Kind: api.TkSym, Text: "<"}},
	} {
		if got, e := lex.Next(c.text, c.at); got != c.want || e != api.OK {
			t.Errorf("Next(%q, %d): %v %v, not %v", c.text, c.at, got, e, c.want)
		}
		checkNext(t, c.text, c.at)
	}
}

// P7.2: what is no word, and places that are not there.
func TestNextRefuses(t *testing.T) {
	for _, s := range []string{"#", "!", "! =", "!a", "!!=", "/", "//x", "/*", " a", "\na", "\ta", "\ra", "\x00", "\x7f", "\xff", "é", "'a'", "\\", "\\x00", "`", "@", "&", "|", "%", "^", "$", "?", "[", "]", "~",
		`"`, `"a`, `"\`, `"a\`, `"\"`, `"\\\"`, `"\q"`, `"\x0"`, `"\x0A"`, `"\x41"`, `"\x22"`, "\"\n\"", "\"\x1f\"", "\"\x7f\"", "\"\xff\"", "\"é\"",
		strings.Repeat("n", 33), strings.Repeat("9", 78), "1." + strings.Repeat("0", 19), "115792089237316195423570985008687907853269984665640564039457584007913129639936"} {
		if got, e := lex.Next(s, 0); got != (api.Token{}) || e != api.ErrWord {
			t.Errorf("Next(%q, 0): %v %v", s, got, e)
		}
		checkNext(t, s, 0)
		checkNext(t, "a "+s, 2)
	}
	for _, text := range []string{"", "a", "abc", "#", " "} {
		for _, at := range []int{math.MinInt, -1, len(text), len(text) + 1, math.MaxInt} {
			if got, e := lex.Next(text, at); got != (api.Token{}) || e != api.ErrNone {
				t.Errorf("Next(%q, %d): %v %v", text, at, got, e)
			}
		}
	}
}

// P7.2: every byte first in a text, within a name, within quotes, ahead of each other one and behind it.
func TestNextOfEachByte(t *testing.T) {
	for b := range 256 {
		one := string([]byte{byte(b)})
		for _, text := range []string{one, one + "a", one + "0", one + "=", one + "\"", "a" + one, "a" + one + "b", "1" + one, "1" + one + "2", "1." + one, "1.5" + one + "6", "\"" + one + "\"", "\"a" + one + "b\"c", "\"\\" + one + "\"", "\"\\" + one, "\"" + one, "\"\"" + one} {
			for at := -1; at <= len(text)+1; at++ {
				checkNext(t, text, at)
			}
			checkScan(t, text)
		}
		for c := range 256 {
			checkNext(t, one+string([]byte{byte(c)}), 0)
		}
	}
}

// P7.2: a name, a number and a text in quotes up to their limits, and one above them.
func TestNextAtLimits(t *testing.T) {
	whole := func(s string, want bool) {
		t.Helper()
		got, e := lex.Next(s+" b", 0)
		if want && (e != api.OK || got.Text != s) || !want && (e != api.ErrWord || got != api.Token{}) {
			t.Errorf("Next(%q, 0): %v %v", s, got, e)
		}
		checkNext(t, s, 0)
		checkScan(t, s)
	}
	whole(strings.Repeat("n", 32), true)
	whole(strings.Repeat("n", 33), false)
	whole("_"+strings.Repeat("9", 31), true)
	whole("_"+strings.Repeat("9", 32), false)
	for _, byteText := range []string{"a", `\"`, `\\`, `\x00`, `\xff`, " "} {
		whole(`"`+strings.Repeat(byteText, 64)+`"`, true)
		whole(`"`+strings.Repeat(byteText, 65)+`"`, false)
		whole(`"`+strings.Repeat("a", 63)+byteText+`"`, true)
		whole(`"`+strings.Repeat("a", 64)+byteText+`"`, false)
	}
	whole("1."+strings.Repeat("0", 18), true)
	whole("1."+strings.Repeat("0", 19), false)
	whole("115792089237316195423570985008687907853269984665640564039457584007913129639935", true)
	whole("115792089237316195423570985008687907853269984665640564039457584007913129639936", false)
	for _, s := range []string{strings.Repeat("n", 1<<20), strings.Repeat("9", 1<<20), "0." + strings.Repeat("9", 1<<20), `"` + strings.Repeat("n", 1<<20) + `"`, `"` + strings.Repeat("n", 1<<20), strings.Repeat("\\", 1<<20)} {
		if got, e := lex.Next(s, 0); got != (api.Token{}) || e != api.ErrWord {
			t.Errorf("Next of %d bytes: %v %v", len(s), got, e)
		}
	}
}

// P7.3: what words come of a text; each begins with the place it has.
func TestScan(t *testing.T) {
	for _, c := range []struct{ text, want string }{
		{"", ""}, {" ", ""}, {"// x", ""}, {"// x\n", ""}, {" // x\n\t\r//", ""},
		{"a.b<=1.50//c", "0 a|1 .|2 b|3 <=|5 1.50"},
		{"a.b<=1.50//c\nd", "0 a|1 .|2 b|3 <=|5 1.50|13 d"},
		{"007", "0 0|1 0|2 7"}, {"-1", "0 -|1 1"}, {"1.5.2", "0 1.5|3 .|4 2"}, {"12.", "0 12|2 ."}, {"1a", "0 1|1 a"}, {"a1", "0 a1"}, {"0x10", "0 0|1 x10"},
		{"< = <= =< <== !==", "0 <|2 =|4 <=|7 =|8 <|10 <=|12 =|14 !=|16 ="}, {"<=>=!=", "0 <=|2 >=|4 !="}, {"a=-1", "0 a|1 =|2 -|3 1"},
		{"{}(),;:.=<>+-*", "0 {|1 }|2 (|3 )|4 ,|5 ;|6 :|7 .|8 =|9 <|10 >|11 +|12 -|13 *"},
		{`"a"b"c"`, `0 "a"|3 b|4 "c"`}, {`"//"//"`, `0 "//"`}, {`"a\"" "\\"`, `0 "a\""|6 "\\"`},
	} {
		words, at, e := lex.Scan(c.text)
		var list []string
		for _, word := range words {
			list = append(list, fmt.Sprint(word.At)+" "+word.Text)
		}
		if got := strings.Join(list, "|"); got != c.want || at != 0 || e != api.OK {
			t.Errorf("Scan(%q): %s %d %v, not %s", c.text, got, at, e, c.want)
		}
		checkScan(t, c.text)
	}
}

// P7.3: the place of the first word that is none.
func TestScanRefuses(t *testing.T) {
	for _, c := range []struct {
		text string
		want int
	}{
		{"#", 0}, {"a #", 2}, {"a#b#", 1}, {"\"a", 0}, {"a\n!", 2}, {"a ! = b", 2}, {"a / b", 2}, {"a /", 2}, {"a //\n /", 6}, {"// \"\n\"", 5}, {"\"\\q\"", 0}, {"x \"\\", 2}, {"x \"\\\"", 2}, {"\"a\nb\"", 0},
		{"a " + strings.Repeat("n", 33) + " #", 2}, {"1 1." + strings.Repeat("0", 19), 2}, {"1 " + strings.Repeat("9", 78), 2}, {"x\"" + strings.Repeat("n", 65) + "\"", 1}, {"a\x00", 1}, {"a\xa0b", 1},
		{strings.Repeat(" ", 1<<14-1) + "#", 1<<14 - 1},
	} {
		words, at, e := lex.Scan(c.text)
		if words != nil || at != c.want || e != api.ErrWord {
			t.Errorf("Scan(%q): %v %d %v, not %d", c.text, words, at, e, c.want)
		}
		checkScan(t, c.text)
	}
}

// P7.3: a text of MaxSource bytes, and of one more.
func TestScanAtLimit(t *testing.T) {
	for _, part := range []string{" ", "#", "a", "a ", ";", "0", "/", "//", "9", "\"", "\n"} {
		text := strings.Repeat(part, 1<<14)[:1<<14]
		checkScan(t, text)
		if words, at, e := lex.Scan(text + part[:1]); words != nil || at != 0 || e != api.ErrLong {
			t.Errorf("Scan of one byte too many, %q: %v %d %v", part, words, at, e)
		}
	}
	if words, _, e := lex.Scan(strings.Repeat(";", 1<<14)); len(words) != 1<<14 || e != api.OK {
		t.Errorf("Scan of %d words: %v", len(words), e)
	}
}

// P7.3.
func TestJoin(t *testing.T) {
	word := func(s string) api.Token { return api.Token{Text: s} }
	for _, c := range []struct {
		words []api.Token
		want  string
	}{
		{nil, ""}, {[]api.Token{}, ""}, {[]api.Token{word("a")}, "a"}, {[]api.Token{word("a"), word("b")}, "a b"}, {[]api.Token{{}}, ""}, {[]api.Token{{}, {}, {}}, "  "},
		{[]api.Token{{Kind: 9, Text: "# #", At: -1}, {Value: api.Value{Kind: api.VText, Text: "x"}}, word("=")}, "# #  ="},
	} {
		before := slices.Clone(c.words)
		if got := lex.Join(c.words...); got != c.want || !slices.Equal(c.words, before) {
			t.Errorf("Join(%v): %q, not %q", c.words, got, c.want)
		}
	}
	if got := lex.Join(); got != "" {
		t.Errorf("Join(): %q", got)
	}
}

// P7.2 to P7.5, over all short texts of the bytes that matter.
func TestScanOfShortTexts(t *testing.T) {
	texts("a01.\"\\/\n =<!", 4, func(s string) { checkScan(t, s) })
	texts("\"\\xf a", 6, func(s string) { checkScan(t, s) })
	texts("01.x-", 6, func(s string) { checkScan(t, s) })
}

// P7.2 to P7.5, over made-up texts, with words that stand apart and such that do not.
func TestScanOfMadeUpTexts(t *testing.T) {
	r := rand.New(rand.NewPCG(7, 3))
	parts, good := pieces(), goodPieces()
	accepted, words := 0, 0
	for range 30000 {
		text := anyText(r, parts, 12)
		checkScan(t, text)
		checkNext(t, text, r.IntN(len(text)+3)-1)
		text = anyText(r, good, 40)
		checkScan(t, text)
		if list, _, e := lex.Scan(text); e == api.OK {
			accepted++
			words += len(list)
		}
	}
	if accepted < 20000 || words < 200000 {
		t.Errorf("of the texts %d were read, with %d words: too few to say a thing", accepted, words)
	}
}

// P7.4: Join of a text without blanks is longer than the text.
func TestJoinTooLong(t *testing.T) {
	for _, n := range []int{1 << 13, 1<<13 + 1, 1 << 14} {
		words, _, e := lex.Scan(strings.Repeat(";", n))
		if e != api.OK || len(words) != n {
			t.Fatal(n, len(words), e)
		}
		checkThereAndBack(t, words)
	}
}

// R3: two answers share nothing.
func TestScanAnswersAreApart(t *testing.T) {
	const text = "a = 1 ;"
	first, _, _ := lex.Scan(text)
	second, _, _ := lex.Scan(text)
	first[0].Text = "b"
	_ = append(first[:1], api.Token{})
	if want, _, _ := scan(text); !slices.Equal(second, want) {
		t.Error("a second answer was changed by what was done to the first one")
	}
}
