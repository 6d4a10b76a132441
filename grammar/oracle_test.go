package grammar

import (
	"strings"

	"excise/api"
)

// The chapter's own rules. What a text of words may go on with is asked of them by a chart (Earley's), which knows nothing of the reader.
const rules = `
def:     "return" name "{" { item | section | table | page } "}"
section: "section" name "max" int "{" { item | section } "}"
item:    "field" name ":" type [ "needed" ] ";"
       | "line" name ":" "amount" int policy "=" expr ";" | "line" name ":" "flag" "=" expr ";" | "line" name ":" "text" "=" expr ";"
       | "check" name "=" expr ";"
type:    "amount" int | "flag" | "text"
policy:  "half_up" | "half_even" | "down" | "up" | "floor"
table:   "table" name "{" step { step } "}"
step:    "from" dec "base" dec "rate" dec ";"
dec:     [ "-" ] number
page:    "page" name [ "when" expr ] "{" [ name { "," name } ] "}"
expr:    both { "or" both }
both:    no { "and" no }
no:      "not" no | rel
rel:     sum [ ( "=" | "!=" | "<" | "<=" | ">" | ">=" ) sum ]
sum:     product { ( "+" | "-" ) product }
product: sign { "*" sign }
sign:    "-" sign | one
one:     number | text | "true" | "false" | name | "(" expr ")" | name "(" expr ")"
       | "if" "(" expr "," expr "," expr ")" | "round" "(" expr "," int "," policy ")" | "blank" "(" expr ")"
       | "rows" "(" name ")" | ( "sum" | "count" | "min" | "max" ) "(" name "." name ")"
`

const ownWords = "return field line check section table page when max from base rate needed amount flag text if round blank rows sum count min and or not true false half_up half_even down up floor"

// A production's right side; what a symbol is, is told by whether productions has it.
type production struct {
	left  string
	right []string
}

type bookOfRules struct {
	of   map[string][]production
	made int
}

// newBook turns the rules into plain productions; what stands in [ ], { } and ( ) becomes a symbol of its own.
func newBook() *bookOfRules {
	b := &bookOfRules{of: map[string][]production{}}
	for _, rule := range ruleTexts() {
		name, body, _ := strings.Cut(rule, ":")
		words := strings.Fields(body)
		if rest := b.choices(name, words); len(rest) != 0 {
			panic("rules: " + name)
		}
	}
	return b
}

// ruleTexts are the rules, one by one: a rule goes on in lines that begin with a blank.
func ruleTexts() []string {
	var l []string
	for _, line := range strings.Split(strings.TrimSpace(rules), "\n") {
		if strings.HasPrefix(line, " ") {
			l[len(l)-1] += line
		} else {
			l = append(l, line)
		}
	}
	return l
}

// choices reads alternatives up to a closing bracket, and tells what is left from that on.
func (b *bookOfRules) choices(left string, words []string) []string {
	p := production{left: left}
	for len(words) > 0 {
		word := words[0]
		switch word {
		case "]", "}", ")":
			b.of[left] = append(b.of[left], p)
			return words
		case "|":
			b.of[left] = append(b.of[left], p)
			p = production{left: left}
			words = words[1:]
		case "[", "{", "(":
			b.made++
			inner := left + strings.Repeat("'", b.made)
			words = b.choices(inner, words[1:])[1:]
			switch word {
			case "[":
				b.of[inner] = append(b.of[inner], production{left: inner})
			case "{":
				for i := range b.of[inner] {
					b.of[inner][i].right = append(b.of[inner][i].right, inner)
				}
				b.of[inner] = append(b.of[inner], production{left: inner})
			}
			p.right = append(p.right, inner)
		default:
			p.right = append(p.right, word)
			words = words[1:]
		}
	}
	b.of[left] = append(b.of[left], p)
	return nil
}

// fits tells whether a word is what a symbol of the rules stands for.
func fits(symbol string, word api.Token) bool {
	own := word.Kind == api.TkName && strings.Contains(" "+ownWords+" ", " "+word.Text+" ")
	switch symbol {
	case "name":
		return word.Kind == api.TkName && !own
	case "number":
		return word.Kind == api.TkNum
	case "text":
		return word.Kind == api.TkText
	case "int":
		return word.Kind == api.TkNum && !strings.Contains(word.Text, ".") &&
			(len(word.Text) < 10 || len(word.Text) == 10 && word.Text <= "1073741824")
	}
	return symbol == `"`+word.Text+`"` && (own || word.Kind == api.TkSym)
}

type chartItem struct {
	left   string
	which  int
	dot    int
	origin int
}

// A chart holds, behind each word, all that the words may be in the midst of.
type chart struct {
	book  *bookOfRules
	start string
	sets  [][]chartItem
}

func newChart(b *bookOfRules, start string) *chart {
	c := &chart{book: b, start: start}
	var first []chartItem
	for i := range b.of[start] {
		first = append(first, chartItem{left: start, which: i})
	}
	c.sets = [][]chartItem{nil}
	c.close(first)
	return c
}

func (c *chart) right(i chartItem) []string { return c.book.of[i.left][i.which].right }

// close fills the last set with all that follows from its first items.
func (c *chart) close(first []chartItem) {
	here := len(c.sets) - 1
	seen := map[chartItem]int{}
	var set []chartItem
	add := func(i chartItem) {
		if seen[i] == 0 {
			seen[i] = 1
			set = append(set, i)
		}
	}
	for _, i := range first {
		add(i)
	}
	// What is complete without any word may be met ahead of who waits for it: gone through until nothing is new.
	for before := -1; before != len(set); {
		before = len(set)
		for n := 0; n < len(set); n++ {
			i := set[n]
			right := c.right(i)
			if i.dot < len(right) {
				for w := range c.book.of[right[i.dot]] {
					add(chartItem{left: right[i.dot], which: w, origin: here})
				}
				continue
			}
			from := set
			if i.origin != here {
				from = c.sets[i.origin]
			}
			for _, waits := range from {
				if r := c.right(waits); waits.dot < len(r) && r[waits.dot] == i.left {
					waits.dot++
					add(waits)
				}
			}
		}
	}
	c.sets[here] = set
}

// push goes on by a word, if some text does.
func (c *chart) push(word api.Token) bool {
	var next []chartItem
	for _, i := range c.sets[len(c.sets)-1] {
		right := c.right(i)
		if i.dot < len(right) && len(c.book.of[right[i.dot]]) == 0 && fits(right[i.dot], word) {
			i.dot++
			next = append(next, i)
		}
	}
	if len(next) == 0 {
		return false
	}
	c.sets = append(c.sets, nil)
	c.close(next)
	return true
}

func (c *chart) pop() { c.sets = c.sets[:len(c.sets)-1] }

// whole tells whether the words may end here.
func (c *chart) whole() bool {
	for _, i := range c.sets[len(c.sets)-1] {
		if i.left == c.start && i.origin == 0 && i.dot == len(c.right(i)) {
			return true
		}
	}
	return false
}

// fault is the number of the first word with which no text goes on (of all, if they end too early), and whether there is one.
func (c *chart) fault(words []api.Token) (int, bool) {
	defer func(n int) { c.sets = c.sets[:n] }(len(c.sets))
	for i, word := range words {
		if !c.push(word) {
			return i, true
		}
	}
	return len(words), !c.whole()
}

// treeOf is what the words of an expression are, by looking for what they are taken apart at: of each kind the last one outside of all brackets.
func treeOf(words []api.Token) api.Expr {
	if i := lastOf(words, "or"); i >= 0 {
		return opOf(api.OpOr, words, i)
	}
	if i := lastOf(words, "and"); i >= 0 {
		return opOf(api.OpAnd, words, i)
	}
	if words[0].Text == "not" {
		return api.Expr{Kind: api.ExNot, Args: []api.Expr{treeOf(words[1:])}}
	}
	for n, s := range strings.Fields("= != < <= > >=") {
		if i := lastOf(words, s); i >= 0 {
			return opOf(api.OpEq+n, words, i)
		}
	}
	if i := max(lastOf(words, "+"), lastOf(words, "-")); i > 0 {
		return opOf(map[string]int{"+": api.OpAdd, "-": api.OpSub}[words[i].Text], words, i)
	}
	if i := lastOf(words, "*"); i >= 0 {
		return opOf(api.OpMul, words, i)
	}
	if words[0].Text == "-" {
		return api.Expr{Kind: api.ExNeg, Args: []api.Expr{treeOf(words[1:])}}
	}
	return oneOf(words)
}

func opOf(op int, words []api.Token, at int) api.Expr {
	return api.Expr{Kind: api.ExOp, Op: op, Args: []api.Expr{treeOf(words[:at]), treeOf(words[at+1:])}}
}

// lastOf is the place of the last such word outside of all brackets that has an operand ahead of it; -1, if there is none.
func lastOf(words []api.Token, text string) int {
	depth, last := 0, -1
	for i, word := range words {
		switch word.Text {
		case "(":
			depth++
		case ")":
			depth--
		}
		if depth == 0 && word.Text == text && i > 0 && !strings.Contains(" or and not = != < <= > >= + - * ", " "+words[i-1].Text+" ") {
			last = i
		}
	}
	return last
}

func oneOf(words []api.Token) api.Expr {
	first := words[0]
	if len(words) == 1 {
		switch {
		case first.Kind != api.TkName:
			return api.Expr{Kind: api.ExConst, Value: first.Value}
		case first.Text == "true" || first.Text == "false":
			return api.Expr{Kind: api.ExConst, Value: api.Value{Kind: api.VFlag, Flag: first.Text == "true"}}
		}
		return api.Expr{Kind: api.ExName, Name: first.Text}
	}
	if first.Text == "(" {
		return treeOf(words[1 : len(words)-1])
	}
	parts := partsOf(words[2 : len(words)-1])
	switch first.Text {
	case "if":
		return api.Expr{Kind: api.ExIf, Args: []api.Expr{treeOf(parts[0]), treeOf(parts[1]), treeOf(parts[2])}}
	case "round":
		policy := map[string]int{"half_up": 1, "half_even": 2, "down": 3, "up": 4, "floor": 5}[parts[2][0].Text]
		return api.Expr{Kind: api.ExRound, Scale: int(parts[1][0].Value.Num.N[0]), Policy: policy, Args: []api.Expr{treeOf(parts[0])}}
	case "blank":
		return api.Expr{Kind: api.ExBlank, Args: []api.Expr{treeOf(parts[0])}}
	case "rows":
		return api.Expr{Kind: api.ExAgg, Op: api.AgRows, Section: words[2].Text}
	case "sum", "count", "min", "max":
		op := map[string]int{"sum": 12, "count": 13, "min": 14, "max": 15}[first.Text]
		return api.Expr{Kind: api.ExAgg, Op: op, Section: words[2].Text, Name: words[4].Text}
	}
	return api.Expr{Kind: api.ExBracket, Name: first.Text, Args: []api.Expr{treeOf(parts[0])}}
}

// partsOf are the words between the commas that stand outside of all brackets.
func partsOf(words []api.Token) [][]api.Token {
	depth, from := 0, 0
	var parts [][]api.Token
	for i, word := range words {
		switch {
		case word.Text == "(":
			depth++
		case word.Text == ")":
			depth--
		case word.Text == "," && depth == 0:
			parts = append(parts, words[from:i])
			from = i + 1
		}
	}
	return append(parts, words[from:])
}
