package grammar

import (
	"strconv"
	"strings"

	"excise/api"
	"excise/dectext"
	"excise/lex"
)

// How tight what an expression is holds together: what is written where something tighter is asked for stands in brackets.
const (
	levelOr = iota + 1
	levelAnd
	levelNot
	levelRel
	levelSum
	levelProduct
	levelSign
	levelOne
)

// A writer puts words one behind the other, with a blank between two. What has no room is counted alone.
type writer struct {
	text   strings.Builder
	length int
}

func (w *writer) put(words ...string) {
	for _, word := range words {
		if w.length > 0 {
			w.add(" ")
		}
		w.add(word)
	}
}

func (w *writer) add(s string) {
	w.length += len(s)
	if w.length <= api.MaxSource {
		w.text.WriteString(s)
	}
}

// told is the text, if it is not too long.
func (w *writer) told() (string, api.Errno) {
	if w.length > api.MaxSource {
		return "", api.ErrLong
	}
	return w.text.String(), api.OK
}

func (w *writer) def(d api.Def) {
	w.put("return", d.Name, "{")
	w.parts(d.Root)
	for _, t := range d.Tables {
		w.table(t)
	}
	for _, p := range d.Pages {
		w.page(p)
	}
	w.put("}")
}

func (w *writer) parts(s api.Section) {
	for _, i := range s.Items {
		w.item(i)
	}
	for _, kid := range s.Kids {
		w.put("section", kid.Name, "max", strconv.Itoa(kid.Max), "{")
		w.parts(kid)
		w.put("}")
	}
}

func (w *writer) item(i api.Item) {
	switch i.Kind {
	case api.ItField:
		w.put("field", i.Name, ":")
		w.kind(i.Type)
		if i.Need {
			w.put("needed")
		}
	case api.ItLine:
		w.put("line", i.Name, ":")
		w.kind(i.Type)
		if i.Type.Kind == api.VNum {
			w.put(policies[i.Policy])
		}
		w.put("=")
		w.expr(i.Expr, levelOr)
	case api.ItCheck:
		w.put("check", i.Name, "=")
		w.expr(i.Expr, levelOr)
	}
	w.put(";")
}

func (w *writer) kind(t api.Type) {
	switch t.Kind {
	case api.VNum:
		w.put("amount", strconv.Itoa(t.Scale))
	case api.VFlag:
		w.put("flag")
	case api.VText:
		w.put("text")
	}
}

func (w *writer) table(t api.Table) {
	w.put("table", t.Name, "{")
	for _, s := range t.Steps {
		w.put("from")
		w.dec(s.From)
		w.put("base")
		w.dec(s.Base)
		w.put("rate")
		w.dec(s.Rate)
		w.put(";")
	}
	w.put("}")
}

// dec puts a number, its sign being a word of its own.
func (w *writer) dec(d api.Dec) {
	if d.Neg {
		w.put("-")
		d.Neg = false
	}
	w.put(dectext.Text(d))
}

func (w *writer) page(p api.Page) {
	w.put("page", p.Name)
	if p.When.Kind != 0 {
		w.put("when")
		w.expr(p.When, levelOr)
	}
	w.put("{")
	for i, name := range p.Items {
		if i > 0 {
			w.put(",")
		}
		w.put(name)
	}
	w.put("}")
}

// expr puts x where what stands there must be at least as tight as a level.
func (w *writer) expr(x api.Expr, least int) {
	if levelOf(x) < least {
		w.put("(")
		w.bare(x)
		w.put(")")
		return
	}
	w.bare(x)
}

// levelOf is how tight x holds together.
func levelOf(x api.Expr) int {
	switch x.Kind {
	case api.ExNot:
		return levelNot
	case api.ExNeg:
		return levelSign
	case api.ExOp:
		return levelOfOp(x.Op)
	}
	return levelOne
}

func levelOfOp(op int) int {
	switch op {
	case api.OpOr:
		return levelOr
	case api.OpAnd:
		return levelAnd
	case api.OpAdd, api.OpSub:
		return levelSum
	case api.OpMul:
		return levelProduct
	}
	return levelRel
}

// bare puts x without brackets round it.
func (w *writer) bare(x api.Expr) {
	switch x.Kind {
	case api.ExConst:
		w.constant(x.Value)
	case api.ExName:
		w.put(x.Name)
	case api.ExNeg:
		w.put("-")
		w.expr(x.Args[0], levelSign)
	case api.ExNot:
		w.put("not")
		w.expr(x.Args[0], levelNot)
	case api.ExOp:
		w.between(x)
	case api.ExIf:
		w.call("if", x.Args...)
	case api.ExRound:
		w.put("round", "(")
		w.expr(x.Args[0], levelOr)
		w.put(",", strconv.Itoa(x.Scale), ",", policies[x.Policy], ")")
	case api.ExBracket:
		w.call(x.Name, x.Args...)
	case api.ExBlank:
		w.call("blank", x.Args...)
	case api.ExAgg:
		w.column(x)
	}
}

// between puts an operator between what is on both sides of it: what is put together from the left needs no brackets there.
func (w *writer) between(x api.Expr) {
	level := levelOfOp(x.Op)
	left := level
	if level == levelRel {
		left = level + 1
	}
	w.expr(x.Args[0], left)
	w.put(operators[x.Op])
	w.expr(x.Args[1], level+1)
}

// call puts expressions in brackets behind a word.
func (w *writer) call(word string, args ...api.Expr) {
	w.put(word, "(")
	for i, x := range args {
		if i > 0 {
			w.put(",")
		}
		w.expr(x, levelOr)
	}
	w.put(")")
}

func (w *writer) column(x api.Expr) {
	w.put(operators[x.Op], "(", x.Section)
	if x.Op != api.AgRows {
		w.put(".", x.Name)
	}
	w.put(")")
}

func (w *writer) constant(v api.Value) {
	switch v.Kind {
	case api.VNum:
		w.put(dectext.Text(v.Num))
	case api.VFlag:
		w.put(strconv.FormatBool(v.Flag))
	case api.VText:
		w.put(lex.Quote(v.Text))
	}
}
