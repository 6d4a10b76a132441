package grammar

import (
	"math/rand"
	"strconv"
	"strings"

	"excise/api"
	"excise/dectext"
	"excise/lex"
)

// A maker makes up definitions: their words, what these mean, and where names stand, each by the rules and none by the reader.
type maker struct {
	r     *rand.Rand
	words []string
	spots []madeSpot
	sects int
}

// A madeSpot is a place of the definition, by the number of the word that names it.
type madeSpot struct {
	place api.Place
	word  int
}

func newMaker(seed int64) *maker { return &maker{r: rand.New(rand.NewSource(seed))} }

func (m *maker) put(words ...string) { m.words = append(m.words, words...) }

func (m *maker) chance(n int) bool { return m.r.Intn(n) == 0 }

func (m *maker) pick(l ...string) string { return l[m.r.Intn(len(l))] }

var madeNames = []string{"a", "b", "_", "x9", "Sum", "sums", "su", "returns", "not_", "in", "else", "Z_0", "maxx", "half", "i", "zwei_und_dreissig_bytes_lang_32b"}

func (m *maker) name() string {
	n := madeNames[m.r.Intn(len(madeNames))]
	m.put(n)
	return n
}

func (m *maker) named(p api.Place) string {
	m.spots = append(m.spots, madeSpot{p, len(m.words)})
	return m.name()
}

func (m *maker) whole() int {
	n := []int{0, 1, 2, 18, 19, 1 << 20, 1 << 30}[m.r.Intn(7)]
	m.put(strconv.Itoa(n))
	return n
}

func (m *maker) number() api.Dec {
	s := m.pick("0", "1", "12", "0.0", "0.25", "1.50", "100.000000000000000001", "1073741825",
		"115792089237316195423570985008687907853269984665640564039457584007913129639935")
	m.put(s)
	d, e := dectext.Parse(s)
	if e != api.OK {
		panic(s)
	}
	return d
}

func (m *maker) dec() api.Dec {
	minus := m.chance(3)
	if minus {
		m.put("-")
	}
	d := m.number()
	if minus && d.N != (api.Nat{}) {
		d.Neg = true
	}
	return d
}

func (m *maker) policy() int {
	p := 1 + m.r.Intn(5)
	m.put([]string{"", "half_up", "half_even", "down", "up", "floor"}[p])
	return p
}

func (m *maker) def() api.Def {
	m.put("return")
	d := api.Def{Name: m.named(api.Place{})}
	m.put("{")
	for !m.chance(6) {
		switch m.r.Intn(6) {
		case 0:
			d.Tables = append(d.Tables, m.table(len(d.Tables)))
		case 1:
			d.Pages = append(d.Pages, m.page(len(d.Pages)))
		default:
			m.part(&d.Root, 0, 1)
		}
	}
	m.put("}")
	return d
}

func (m *maker) part(s *api.Section, number, depth int) {
	if m.chance(4) && depth < 6 {
		m.sects++
		own := m.sects
		m.put("section")
		kid := api.Section{Name: m.named(api.Place{Kind: api.PlSection, Section: own})}
		m.put("max")
		kid.Max = m.whole()
		m.put("{")
		for !m.chance(3) {
			m.part(&kid, own, depth+1)
		}
		m.put("}")
		s.Kids = append(s.Kids, kid)
		return
	}
	s.Items = append(s.Items, m.item(api.Place{Kind: api.PlItem, Section: number, Item: len(s.Items)}))
}

func (m *maker) item(p api.Place) api.Item {
	i := api.Item{Kind: 1 + m.r.Intn(3)}
	m.put([]string{"", "field", "line", "check"}[i.Kind])
	i.Name = m.named(p)
	if i.Kind != api.ItCheck {
		m.put(":")
		i.Type.Kind = 1 + m.r.Intn(3)
		m.put([]string{"", "amount", "flag", "text"}[i.Type.Kind])
		if i.Type.Kind == api.VNum {
			i.Type.Scale = m.whole()
		}
	}
	switch i.Kind {
	case api.ItField:
		if i.Need = m.chance(2); i.Need {
			m.put("needed")
		}
	case api.ItLine:
		if i.Type.Kind == api.VNum {
			i.Policy = m.policy()
		}
	}
	if i.Kind != api.ItField {
		m.put("=")
		i.Expr = m.expr(4)
	}
	m.put(";")
	return i
}

func (m *maker) table(n int) api.Table {
	m.put("table")
	t := api.Table{Name: m.named(api.Place{Kind: api.PlTable, Table: n})}
	m.put("{")
	for first := true; first || !m.chance(2); first = false {
		var s api.Step
		m.put("from")
		s.From = m.dec()
		m.put("base")
		s.Base = m.dec()
		m.put("rate")
		s.Rate = m.dec()
		m.put(";")
		t.Steps = append(t.Steps, s)
	}
	m.put("}")
	return t
}

func (m *maker) page(n int) api.Page {
	m.put("page")
	p := api.Page{Name: m.named(api.Place{Kind: api.PlPage, Page: n})}
	if m.chance(2) {
		m.put("when")
		p.When = m.expr(3)
	}
	m.put("{")
	for !m.chance(3) {
		if len(p.Items) > 0 {
			m.put(",")
		}
		p.Items = append(p.Items, m.name())
	}
	m.put("}")
	return p
}

// expr makes what the rules call expr; what is ahead of an operator is all that was ahead of it.
func (m *maker) expr(room int) api.Expr {
	x := m.both(room)
	for m.chance(5) {
		m.put("or")
		x = api.Expr{Kind: api.ExOp, Op: api.OpOr, Args: []api.Expr{x, m.both(room)}}
	}
	return x
}

func (m *maker) both(room int) api.Expr {
	x := m.no(room)
	for m.chance(5) {
		m.put("and")
		x = api.Expr{Kind: api.ExOp, Op: api.OpAnd, Args: []api.Expr{x, m.no(room)}}
	}
	return x
}

func (m *maker) no(room int) api.Expr {
	if m.chance(5) {
		m.put("not")
		return api.Expr{Kind: api.ExNot, Args: []api.Expr{m.no(room)}}
	}
	x := m.sum(room)
	if m.chance(4) {
		op := 4 + m.r.Intn(6)
		m.put([]string{"=", "!=", "<", "<=", ">", ">="}[op-4])
		x = api.Expr{Kind: api.ExOp, Op: op, Args: []api.Expr{x, m.sum(room)}}
	}
	return x
}

func (m *maker) sum(room int) api.Expr {
	x := m.product(room)
	for m.chance(5) {
		op := 1 + m.r.Intn(2)
		m.put([]string{"+", "-"}[op-1])
		x = api.Expr{Kind: api.ExOp, Op: op, Args: []api.Expr{x, m.product(room)}}
	}
	return x
}

func (m *maker) product(room int) api.Expr {
	x := m.sign(room)
	for m.chance(5) {
		m.put("*")
		x = api.Expr{Kind: api.ExOp, Op: api.OpMul, Args: []api.Expr{x, m.sign(room)}}
	}
	return x
}

func (m *maker) sign(room int) api.Expr {
	if m.chance(6) {
		m.put("-")
		return api.Expr{Kind: api.ExNeg, Args: []api.Expr{m.sign(room)}}
	}
	return m.one(room)
}

func (m *maker) one(room int) api.Expr {
	kinds := 13
	if room == 0 {
		kinds = 8
	}
	switch m.r.Intn(kinds) {
	case 0, 1:
		return api.Expr{Kind: api.ExConst, Value: api.Value{Kind: api.VNum, Num: m.number()}}
	case 2:
		s := m.pick("", "a", "\"", "\\", "// no comment", "\x00\xff", "true", strings.Repeat("\x80", 64))
		m.put(lex.Quote(s))
		return api.Expr{Kind: api.ExConst, Value: api.Value{Kind: api.VText, Text: s}}
	case 3:
		yes := m.chance(2)
		m.put(strconv.FormatBool(yes))
		return api.Expr{Kind: api.ExConst, Value: api.Value{Kind: api.VFlag, Flag: yes}}
	case 4, 5:
		return api.Expr{Kind: api.ExName, Name: m.name()}
	case 6:
		m.put("rows", "(")
		x := api.Expr{Kind: api.ExAgg, Op: api.AgRows, Section: m.name()}
		m.put(")")
		return x
	case 7:
		x := api.Expr{Kind: api.ExAgg, Op: 12 + m.r.Intn(4)}
		m.put([]string{"sum", "count", "min", "max"}[x.Op-12], "(")
		x.Section = m.name()
		m.put(".")
		x.Name = m.name()
		m.put(")")
		return x
	}
	return m.around(room - 1)
}

// around makes what has expressions in brackets.
func (m *maker) around(room int) api.Expr {
	var x api.Expr
	switch m.r.Intn(6) {
	case 0, 1:
		m.put("(")
		x = m.expr(room)
	case 2:
		x.Kind, x.Name = api.ExBracket, m.name()
		m.put("(")
		x.Args = []api.Expr{m.expr(room)}
	case 3:
		m.put("blank", "(")
		x = api.Expr{Kind: api.ExBlank, Args: []api.Expr{m.expr(room)}}
	case 4:
		m.put("round", "(")
		x = api.Expr{Kind: api.ExRound, Args: []api.Expr{m.expr(room)}}
		m.put(",")
		x.Scale = m.whole()
		m.put(",")
		x.Policy = m.policy()
	case 5:
		m.put("if", "(")
		x.Kind = api.ExIf
		for i := range 3 {
			if i > 0 {
				m.put(",")
			}
			x.Args = append(x.Args, m.expr(room))
		}
	}
	m.put(")")
	return x
}

// laid is the words with blanks and comments between them, of which there may be none where two words stay two; and their places.
func (m *maker) laid() (string, []int) {
	var text strings.Builder
	var places []int
	blank := func() {
		for !m.chance(2) {
			text.WriteString(m.pick(" ", "\t", "\n", "\r", "// return x {\n", "//\n", "  "))
		}
	}
	blank()
	for i, word := range m.words {
		if i > 0 && !stayTwo(m.words[i-1], word) {
			text.WriteString(m.pick(" ", "\n", "//\"\n"))
		}
		places = append(places, text.Len())
		text.WriteString(word)
		blank()
	}
	if m.chance(3) {
		text.WriteString("// the end")
	}
	return text.String(), places
}

// stayTwo tells whether two words are still these two without a blank between them.
func stayTwo(a, b string) bool {
	words, _, e := lex.Scan(a + b)
	return e == api.OK && len(words) == 2 && words[0].Text == a && words[1].Text == b
}
