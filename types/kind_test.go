package types

import (
	"math"
	"slices"
	"strconv"
	"strings"
	"testing"

	"excise/api"
	"excise/grammar"
	"excise/scope"
)

func wantKind(t *testing.T, d api.Def, section int, x api.Expr, kind int, e api.Errno) {
	t.Helper()
	if k, f := Kind(d, section, x); k != kind || f != e {
		t.Errorf("Kind(.., %d, %+v)\n is %d, %d, not %d, %d", section, x, k, f, kind, e)
	}
}

func wantNoKind(t *testing.T, d api.Def, section int, x api.Expr, e api.Errno) {
	t.Helper()
	wantKind(t, d, section, x, 0, e)
}

// A definition with items of each kind and type; the sections are the root, s, u, w and v. The root's items behind c have no type that may be.
const kindText = `return r {
	field n : amount 2 ; field f : flag ; field t : text ;
	line ln : amount 0 up = n ; line lf : flag = f ; line lt : text = t ; check c = f ;
	section s max 5 { field sn : amount 18 ; field sf : flag ; field st : text ; line sln : amount 0 up = n ; line slf : flag = f ; line slt : text = t ; check sc = f ;
		section u max 5 { field un : amount 0 ; line uf : flag = f ; check uc = f ;
			section w max 5 { field wt : text ; } } }
	section v max 5 { field vn : amount 1 ; field vf : flag ; }
	table T { from 0 base 0 rate 0.1 ; } table U { from 0 base 0 rate 0.2 ; } }`

// Types that may not be.
var oddTypes = []api.Type{{Kind: 1, Scale: 19}, {Kind: 1, Scale: -1}, {Kind: 2, Scale: 1}, {Kind: 2, Scale: -1}, {Kind: 3, Scale: 1}, {Kind: 3, Scale: -1}, {}, {Scale: 1},
	{Kind: 4}, {Kind: 5}, {Kind: -1}, {Kind: math.MaxInt}, {Kind: math.MinInt}, {Kind: 1, Scale: math.MaxInt}, {Kind: 1, Scale: math.MinInt}}

func odd(i int) string { return "odd" + strconv.Itoa(i) }

// kindDef is kindText's definition, with items of types that may not be in the root and in s.
func kindDef(t *testing.T) api.Def {
	t.Helper()
	d := parsed(t, kindText)
	for i, of := range oddTypes {
		item := api.Item{Name: odd(i), Kind: api.ItField + i%2, Type: of}
		d.Root.Items = append(d.Root.Items, item)
		item.Name = "s" + item.Name
		d.Root.Kids[0].Items = append(d.Root.Kids[0].Items, item)
	}
	return d
}

// P10.2: the chapter's examples, and each kind of node as texts say it.
func TestKindExamples(t *testing.T) {
	d := kindDef(t)
	for text, want := range map[string]int{
		"if(true, 1, 2)": api.VNum, "1": api.VNum, "0.000000000000000001": api.VNum, "true": api.VFlag, "false": api.VFlag, "\"\"": api.VText, "\"a\"": api.VText,
		"n": api.VNum, "f": api.VFlag, "t": api.VText, "ln": api.VNum, "lf": api.VFlag, "lt": api.VText, "- n": api.VNum, "- - 1": api.VNum, "not f": api.VFlag,
		"n + 1": api.VNum, "n - ln * 2": api.VNum, "n = 1": api.VFlag, "t != \"x\"": api.VFlag, "f = true": api.VFlag, "n < 1 and n <= 2 or n > 3 and n >= 4": api.VFlag,
		"if(f, t, lt)": api.VText, "if(n > 0, f, not f)": api.VFlag, "round(n * 0.25, 0, half_even)": api.VNum, "T(n) + U(T(1))": api.VNum,
		"blank(n)": api.VFlag, "blank(f)": api.VFlag, "blank(t)": api.VFlag, "blank(blank(t))": api.VFlag,
		"rows(s)": api.VNum, "sum(s.sn)": api.VNum, "min(s.sln) + max(v.vn)": api.VNum, "count(s.st) * count(v.vf)": api.VNum,
	} {
		wantKind(t, d, 0, expr(t, text), want, api.OK)
	}
	for text, want := range map[string]api.Errno{
		"t + 1": api.ErrKind, "sum(s.sf)": api.ErrKind, "round(1, 19, up)": api.ErrScale, "a": api.ErrUnknown, "not n": api.ErrKind, "- f": api.ErrKind,
		"n = f": api.ErrKind, "t < t": api.ErrKind, "f and n": api.ErrKind, "if(n, 1, 2)": api.ErrKind, "if(f, 1, t)": api.ErrKind, "T(t)": api.ErrKind, "V(1)": api.ErrUnknown,
		"rows(u)": api.ErrUnknown, "sum(s.n)": api.ErrUnknown, "sum(s.sc)": api.ErrUnknown, "sum(t.t)": api.ErrUnknown, "round(f, 2, up)": api.ErrKind, "c": api.ErrUnknown,
	} {
		wantNoKind(t, d, 0, expr(t, text), want)
	}
}

// The kinds of nodes that have Args: n is a number, f a flag, t a text; what stands behind the colon is the node's.
const suits = `neg n : n / not f : f / blank n : f / blank f : f / blank t : f / round n : n / bracket n : n
	add n n : n / sub n n : n / mul n n : n / lt n n : f / le n n : f / gt n n : f / ge n n : f / and f f : f / or f f : f
	eq n n : f / eq f f : f / eq t t : f / ne n n : f / ne f f : f / ne t t : f
	if f n n : n / if f f f : f / if f t t : t`

// The nodes that suits has words for.
var nodeWords = map[string]api.Expr{
	"neg": {Kind: api.ExNeg}, "not": {Kind: api.ExNot}, "blank": {Kind: api.ExBlank}, "if": {Kind: api.ExIf},
	"round": {Kind: api.ExRound, Policy: api.HalfUp}, "bracket": {Kind: api.ExBracket, Name: "T"},
	"add": {Kind: api.ExOp, Op: api.OpAdd}, "sub": {Kind: api.ExOp, Op: api.OpSub}, "mul": {Kind: api.ExOp, Op: api.OpMul},
	"eq": {Kind: api.ExOp, Op: api.OpEq}, "ne": {Kind: api.ExOp, Op: api.OpNe}, "lt": {Kind: api.ExOp, Op: api.OpLt}, "le": {Kind: api.ExOp, Op: api.OpLe},
	"gt": {Kind: api.ExOp, Op: api.OpGt}, "ge": {Kind: api.ExOp, Op: api.OpGe}, "and": {Kind: api.ExOp, Op: api.OpAnd}, "or": {Kind: api.ExOp, Op: api.OpOr},
}

var kindLetters = map[string]int{"n": api.VNum, "f": api.VFlag, "t": api.VText}

// suitsOf are the lines of suits: words as they stand there ahead of the colon, and the kind.
func suitsOf() map[string]int {
	l := map[string]int{}
	for _, line := range strings.Split(strings.ReplaceAll(suits, "\n", "/"), "/") {
		node, kind, _ := strings.Cut(strings.TrimSpace(line), " : ")
		l[node] = kindLetters[kind]
	}
	return l
}

// letterLists are all lists of up to so many letters.
func letterLists(most int) [][]string {
	l := [][]string{nil}
	for from := 0; most > 0; most-- {
		to := len(l)
		for _, ahead := range l[from:to] {
			for _, letter := range []string{"n", "f", "t"} {
				l = append(l, append(slices.Clone(ahead), letter))
			}
		}
		from = to
	}
	return l
}

// argsOf are expressions of the kinds that letters say.
func argsOf(letters []string, which int) []api.Expr {
	var l []api.Expr
	for i, letter := range letters {
		all := map[string][]api.Expr{
			"n": {reads("n"), constant(numValue(dec(5, 1))), column(api.AgRows, "s", ""), reads("ln"), column(api.AgSum, "v", "vn")},
			"f": {reads("f"), constant(flagValue(true)), not(reads("lf")), over(api.Expr{Kind: api.ExBlank}, reads("t"))},
			"t": {reads("t"), constant(textValue("x")), reads("lt")},
		}[letter]
		l = append(l, all[(which+i)%len(all)])
	}
	return l
}

// P10.2: each node and each Op with Args of each kind, none, too few and too many of them.
func TestKindArgs(t *testing.T) {
	d, known := kindDef(t), suitsOf()
	if len(known) != 25 {
		t.Fatal("so many that suit:", len(known))
	}
	held := 0
	for _, letters := range letterLists(5) {
		for word, node := range nodeWords {
			kind, ok := known[strings.Join(append([]string{word}, letters...), " ")]
			for which := range 4 {
				x := over(node, argsOf(letters, which)...)
				if ok {
					held++
					wantKind(t, d, 0, x, kind, api.OK)
				} else {
					wantNoKind(t, d, 0, x, api.ErrKind)
				}
			}
		}
	}
	if held != 4*len(known) {
		t.Error("only so many hold:", held)
	}
}

// P10.2: constants, names and aggregates have no Args.
func TestKindLeaves(t *testing.T) {
	d := kindDef(t)
	for _, letters := range letterLists(3) {
		for _, x := range []api.Expr{constant(numValue(dec(1, 0))), constant(flagValue(true)), constant(textValue("a")), reads("n"), reads("f"), reads("lt"), column(api.AgRows, "s", ""),
			column(api.AgSum, "s", "sn"), column(api.AgCount, "s", "st"), column(api.AgMin, "v", "vn"), column(api.AgMax, "s", "sln")} {
			if len(letters) > 0 {
				wantNoKind(t, d, 0, over(x, argsOf(letters, 0)...), api.ErrKind)
			} else if k, e := Kind(d, 0, x); e != api.OK || k == 0 {
				t.Errorf("%+v: %d, %d", x, k, e)
			}
		}
	}
}

// P10.2: nodes and operators that there are not, with whatever Args.
func TestKindOdd(t *testing.T) {
	d := kindDef(t)
	for _, letters := range letterLists(3) {
		for _, kind := range []int{math.MinInt, -10, -5, -1, 0, 11, 12, 16, 5 + 256, math.MaxInt} {
			for _, op := range []int{0, api.OpAdd, api.OpEq, api.AgRows} {
				wantNoKind(t, d, 0, api.Expr{Kind: kind, Op: op, Name: "n", Section: "s", Value: numValue(dec(1, 0)), Policy: 1, Args: argsOf(letters, 0)}, api.ErrKind)
			}
		}
		for _, op := range []int{math.MinInt, -1, 0, api.AgSum, api.AgCount, api.AgMin, api.AgMax, api.AgRows, 17, 256 + 1, math.MaxInt} {
			wantNoKind(t, d, 0, api.Expr{Kind: api.ExOp, Op: op, Args: argsOf(letters, 0)}, api.ErrKind)
		}
	}
}

// P10.2: fields that a node's kind does not have count for nothing.
func TestKindOtherFields(t *testing.T) {
	d := kindDef(t)
	spoilt := api.Expr{Op: 99, Name: "nobody", Section: "nobody", Value: api.Value{Kind: -3, Err: 7}, Scale: -5, Policy: 88}
	for line, kind := range suitsOf() {
		words := strings.Fields(line)
		x := spoilt
		node := nodeWords[words[0]]
		x.Kind = node.Kind
		switch node.Kind {
		case api.ExOp:
			x.Op = node.Op
		case api.ExBracket:
			x.Name = node.Name
		case api.ExRound:
			x.Scale, x.Policy = node.Scale, node.Policy
		}
		x.Args = argsOf(words[1:], 0)
		wantKind(t, d, 0, x, kind, api.OK)
	}
	x := spoilt
	x.Kind, x.Value = api.ExConst, textValue("a")
	wantKind(t, d, 0, x, api.VText, api.OK)
	x = spoilt
	x.Kind, x.Name = api.ExName, "f"
	wantKind(t, d, 0, x, api.VFlag, api.OK)
	x = spoilt
	x.Kind, x.Op, x.Section, x.Name = api.ExAgg, api.AgCount, "s", "sf"
	wantKind(t, d, 0, x, api.VNum, api.OK)
}

// P10.2: of a constant Const's error, or its kind.
func TestKindConst(t *testing.T) {
	d := kindDef(t)
	for _, v := range goodConsts() {
		wantKind(t, d, 0, constant(v), v.Kind, api.OK)
		for _, set := range setters(v.Kind) {
			spoilt := v
			set(&spoilt)
			wantNoKind(t, d, 0, constant(spoilt), api.ErrKind)
		}
	}
	for _, a := range badDecs {
		wantNoKind(t, d, 0, constant(numValue(a)), api.ErrDecimal)
	}
	for _, kind := range []int{math.MinInt, -1, api.VBlank, api.VErr, 5, math.MaxInt} {
		wantNoKind(t, d, 0, constant(api.Value{Kind: kind}), api.ErrKind)
	}
	wantNoKind(t, d, 0, constant(api.Value{Kind: api.VErr, Err: api.EvNone}), api.ErrKind)
	wantNoKind(t, d, 0, constant(textValue(strings.Repeat("n", 65))), api.ErrKind)
}

// P10.2: names of fields, lines and checks, of this section, of those around it, and of others.
func TestKindNames(t *testing.T) {
	d := kindDef(t)
	kinds := map[string]int{"n": 1, "f": 2, "t": 3, "ln": 1, "lf": 2, "lt": 3, "sn": 1, "sf": 2, "st": 3, "sln": 1, "slf": 2, "slt": 3, "un": 1, "uf": 2, "wt": 3, "vn": 1, "vf": 2}
	root, s := "n f t ln lf lt", "sn sf st sln slf slt"
	own := []string{root, root + " " + s, root + " " + s + " un uf", root + " " + s + " un uf wt", root + " vn vf"}
	for section := range own {
		for name, kind := range kinds {
			if slices.Contains(strings.Fields(own[section]), name) {
				wantKind(t, d, section, reads(name), kind, api.OK)
			} else {
				wantNoKind(t, d, section, reads(name), api.ErrUnknown)
			}
		}
		for _, name := range []string{"c", "sc", "uc", "r", "s", "u", "w", "v", "T", "U", "", "N", "nn", "nobody", "sum"} {
			wantNoKind(t, d, section, reads(name), api.ErrUnknown)
		}
		for i := range oddTypes {
			wantNoKind(t, d, section, reads(odd(i)), api.ErrKind)
			want := api.ErrKind
			if section == 0 || section == 4 {
				want = api.ErrUnknown
			}
			wantNoKind(t, d, section, reads("s"+odd(i)), want)
		}
	}
}

// P10.2: of a name that is there more often the nearest section's first field or line.
func TestKindNamedTwice(t *testing.T) {
	item := func(kind, of int) api.Item {
		return api.Item{Name: "a", Kind: kind, Type: api.Type{Kind: of}}
	}
	d := api.Def{Root: api.Section{Items: []api.Item{item(api.ItCheck, 3), item(7, 3), item(0, 3), item(api.ItLine, 2), item(api.ItField, 1)}, Kids: []api.Section{
		{Name: "s", Items: []api.Item{item(api.ItField, 3), item(api.ItField, 1)}}, {Name: "s", Items: []api.Item{item(api.ItLine, 1)}},
		{Name: "u", Items: []api.Item{item(api.ItCheck, 1)}}, {Name: "", Items: []api.Item{item(api.ItLine, 9), item(api.ItField, 1)}}}}}
	for section, want := range []int{2, 3, 1, 2} {
		wantKind(t, d, section, reads("a"), want, api.OK)
	}
	wantNoKind(t, d, 4, reads("a"), api.ErrKind)
	wantNoKind(t, d, 0, column(api.AgSum, "s", "a"), api.ErrKind) // over the first section's first one, a text
	wantKind(t, d, 0, column(api.AgCount, "s", "a"), api.VNum, api.OK)
	wantNoKind(t, d, 0, column(api.AgCount, "u", "a"), api.ErrUnknown)
	wantNoKind(t, d, 0, column(api.AgMax, "", "a"), api.ErrKind)
	wantKind(t, d, 0, column(api.AgCount, "", "a"), api.VNum, api.OK)
	wantKind(t, d, 0, column(api.AgRows, "", ""), api.VNum, api.OK)
}

// P10.2: aggregates over each kind of item, with each Op.
func TestKindColumns(t *testing.T) {
	d := kindDef(t)
	ops := []int{math.MinInt, -1, 0, api.OpAdd, api.OpOr, api.AgSum, api.AgCount, api.AgMin, api.AgMax, 17, math.MaxInt}
	for _, op := range ops {
		for i, names := range [][]string{{"sn", "sln"}, {"sf", "st", "slf", "slt"}} {
			for _, name := range names {
				if op == api.AgCount || i == 0 && (op == api.AgSum || op == api.AgMin || op == api.AgMax) {
					wantKind(t, d, 0, column(op, "s", name), api.VNum, api.OK)
				} else {
					wantNoKind(t, d, 0, column(op, "s", name), api.ErrKind)
				}
			}
		}
		for i, of := range oddTypes {
			if op == api.AgCount || of.Kind == api.VNum && (op == api.AgSum || op == api.AgMin || op == api.AgMax) {
				wantKind(t, d, 0, column(op, "s", "s"+odd(i)), api.VNum, api.OK)
			} else {
				wantNoKind(t, d, 0, column(op, "s", "s"+odd(i)), api.ErrKind)
			}
		}
		for _, name := range []string{"", "sc", "n", "f", "u", "un", "s", "nobody", "SN", "vn", odd(0)} {
			wantNoKind(t, d, 0, column(op, "s", name), api.ErrUnknown)
		}
		for _, section := range []string{"", "r", "u", "w", "n", "T", "nobody", "S"} {
			for _, name := range []string{"sn", "n", "un", ""} {
				wantNoKind(t, d, 0, column(op, section, name), api.ErrUnknown)
			}
		}
	}
}

// P10.2: rows have no Name; where the section is no kid, that is told ahead of a Name.
func TestKindRows(t *testing.T) {
	d := kindDef(t)
	kids := [][]string{{"s", "v"}, {"u"}, {"w"}, {}, {}}
	for section := range kids {
		for _, kid := range []string{"s", "v", "u", "w", "", "r", "n"} {
			if slices.Contains(kids[section], kid) {
				wantKind(t, d, section, column(api.AgRows, kid, ""), api.VNum, api.OK)
			} else {
				wantNoKind(t, d, section, column(api.AgRows, kid, ""), api.ErrUnknown)
			}
			for _, name := range []string{"sn", "vn", "un", "wt", "nobody", "sc"} {
				want := api.ErrUnknown
				if slices.Contains(kids[section], kid) {
					want = api.ErrKind
				}
				wantNoKind(t, d, section, column(api.AgRows, kid, name), want)
			}
		}
	}
	wantKind(t, d, 1, column(api.AgSum, "u", "un"), api.VNum, api.OK)
	wantNoKind(t, d, 1, column(api.AgSum, "u", "sn"), api.ErrUnknown)
	wantNoKind(t, d, 1, column(api.AgSum, "s", "sn"), api.ErrUnknown)
	wantNoKind(t, d, 2, column(api.AgSum, "w", "wt"), api.ErrKind)
	wantKind(t, d, 2, column(api.AgCount, "w", "wt"), api.VNum, api.OK)
}

// P10.2: round's scales and policies: the scale's error is told first, both ahead of Args that do not suit.
func TestKindRound(t *testing.T) {
	d := kindDef(t)
	for _, scale := range []int{math.MinInt, -1, 0, 1, 9, 17, 18, 19, 20, math.MaxInt} {
		for _, policy := range []int{math.MinInt, -1, 0, 1, 2, 3, 4, 5, 6, 7, math.MaxInt} {
			want := api.OK
			switch {
			case scale < 0 || scale > 18:
				want = api.ErrScale
			case policy < 1 || policy > 5:
				want = api.ErrPolicy
			}
			node := api.Expr{Kind: api.ExRound, Scale: scale, Policy: policy}
			if want == api.OK {
				wantKind(t, d, 0, over(node, reads("n")), api.VNum, api.OK)
				want = api.ErrKind
			} else {
				wantNoKind(t, d, 0, over(node, reads("n")), want)
			}
			for _, args := range [][]api.Expr{nil, {reads("f")}, {reads("t")}, {reads("n"), reads("n")}, {constant(textValue("")), reads("n"), reads("n")}} {
				wantNoKind(t, d, 0, over(node, args...), want)
			}
			wantNoKind(t, d, 0, over(node, reads("nobody")), api.ErrUnknown)
		}
	}
}

// P10.2: brackets of tables that are there and are not, the latter told ahead of Args that do not suit.
func TestKindBracket(t *testing.T) {
	d := kindDef(t)
	d.Tables = append(d.Tables, api.Table{Name: ""}, api.Table{Name: "n"})
	for name, there := range map[string]bool{"T": true, "U": true, "": true, "n": true, "t": false, "V": false, "s": false, "f": false, "TT": false, "r": false} {
		for _, section := range []int{0, 1, 3} {
			node := api.Expr{Kind: api.ExBracket, Name: name}
			want := api.ErrUnknown
			if there {
				want = api.ErrKind
				wantKind(t, d, section, over(node, reads("n")), api.VNum, api.OK)
			} else {
				wantNoKind(t, d, section, over(node, reads("n")), want)
			}
			for _, args := range [][]api.Expr{nil, {reads("f")}, {reads("t")}, {reads("n"), reads("n")}} {
				wantNoKind(t, d, section, over(node, args...), want)
			}
			wantNoKind(t, d, section, over(node, constant(numValue(badDecs[0]))), api.ErrDecimal)
		}
	}
}

// A wrong is an expression by itself, and its error.
type wrong struct {
	x api.Expr
	e api.Errno
}

// wrongs are expressions with each error, of each kind of node.
func wrongs() []wrong {
	n, f := reads("n"), reads("f")
	return []wrong{
		{constant(numValue(badDecs[1])), api.ErrDecimal}, {reads("nobody"), api.ErrUnknown}, {over(api.Expr{Kind: api.ExRound, Scale: 19, Policy: 1}, n), api.ErrScale},
		{over(api.Expr{Kind: api.ExRound}, n), api.ErrPolicy}, {over(api.Expr{Kind: api.ExNeg}, f), api.ErrKind}, {constant(api.Value{}), api.ErrKind}, {reads(odd(3)), api.ErrKind},
		{not(n), api.ErrKind}, {api.Expr{Kind: api.ExBlank}, api.ErrKind}, {over(api.Expr{Kind: api.ExOp, Op: api.OpAdd}, n, f), api.ErrKind}, {over(api.Expr{Kind: api.ExIf}, f, n, f), api.ErrKind},
		{over(api.Expr{Kind: api.ExBracket, Name: "V"}, n), api.ErrUnknown}, {over(api.Expr{Kind: api.ExBracket, Name: "T"}, f), api.ErrKind},
		{column(api.AgSum, "nobody", "sn"), api.ErrUnknown}, {column(api.AgSum, "s", "nobody"), api.ErrUnknown}, {column(api.AgSum, "s", "sf"), api.ErrKind}, {column(api.AgRows, "s", "sn"), api.ErrKind},
		{api.Expr{Kind: 11}, api.ErrKind}, {api.Expr{}, api.ErrKind},
	}
}

// around is x under nodes of all kinds, with Args that have a kind ahead of it and behind it.
func around(x api.Expr) []api.Expr {
	n, f, t := reads("n"), reads("f"), reads("t")
	l := []api.Expr{x, not(x), over(constant(api.Value{Kind: api.VNum}), f, x), over(api.Expr{Kind: api.ExIf}, f, n, x), over(api.Expr{Kind: api.ExIf}, x, f, t), over(reads("n"), t, x, t),
		over(column(api.AgRows, "s", ""), x), over(api.Expr{Kind: 77}, n, n, x), over(api.Expr{}, x)}
	for _, node := range nodeWords {
		l = append(l, over(node, x), over(node, n, x), over(node, x, t), over(node, not(f), over(node, x)))
	}
	return l
}

// P10.2: an expression's first error, from the left to the right, however deep it stands and whatever is wrong around it and behind it.
func TestKindFirstError(t *testing.T) {
	d := kindDef(t)
	l := wrongs()
	for _, one := range l {
		for _, x := range around(one.x) {
			wantNoKind(t, d, 0, x, one.e)
		}
		for _, two := range l {
			for _, node := range []api.Expr{{Kind: api.ExOp, Op: api.OpAdd}, {Kind: api.ExOp, Op: api.OpOr}, {Kind: api.ExIf}, {Kind: api.ExConst}, {Kind: 99}} {
				wantNoKind(t, d, 0, over(node, one.x, two.x), one.e)
				wantNoKind(t, d, 0, over(node, reads("f"), not(not(one.x)), two.x), one.e)
				wantNoKind(t, d, 0, over(node, reads("n"), not(one.x), reads("n"), not(two.x)), one.e)
				wantNoKind(t, d, 0, over(node, over(node, over(node, reads("n"), one.x), two.x), two.x), one.e)
				wantNoKind(t, d, 0, over(node, over(node, reads("n"), over(node, reads("n"), one.x)), two.x), one.e)
			}
		}
	}
}

// P10.2: what is wrong with Args is told ahead of the node's own error, and that ahead of there being too many of them.
func TestKindArgsAhead(t *testing.T) {
	d := kindDef(t)
	for _, outer := range wrongs() {
		for _, inner := range wrongs() {
			x := outer.x
			x.Args = append(slices.Clip(x.Args), inner.x)
			wantNoKind(t, d, 0, x, inner.e)
			x.Args = []api.Expr{inner.x}
			wantNoKind(t, d, 0, x, inner.e)
		}
		x := outer.x
		x.Args = append(slices.Clip(x.Args), reads("n"), reads("t"))
		wantNoKind(t, d, 0, x, outer.e)
	}
}

// P10.2: just MaxNodes nodes, and one more: which is told ahead of every other error but that of the section.
func TestKindNodes(t *testing.T) {
	d := kindDef(t)
	sum := func(last api.Expr, nodes int) api.Expr { // an uneven number
		x := last
		for range nodes / 2 {
			x = over(api.Expr{Kind: api.ExOp, Op: api.OpAdd}, x, reads("n"))
		}
		return x
	}
	neg := func(x api.Expr) api.Expr { return over(api.Expr{Kind: api.ExNeg}, x) }
	for nodes := 1; nodes < 140; nodes++ {
		x := sum(reads("n"), nodes)
		if nodes%2 == 0 {
			x = neg(sum(reads("n"), nodes-1))
		}
		flag := tower(reads("f"), nodes-1)
		if Nodes(x) != nodes || Nodes(flag) != nodes {
			t.Fatal(nodes, Nodes(x), Nodes(flag))
		}
		if nodes <= api.MaxNodes {
			wantKind(t, d, 0, x, api.VNum, api.OK)
			wantKind(t, d, 3, flag, api.VFlag, api.OK)
		} else {
			wantNoKind(t, d, 0, x, api.ErrNodes)
			wantNoKind(t, d, 3, flag, api.ErrNodes)
		}
	}
	for _, one := range wrongs() {
		fill := api.MaxNodes - Nodes(one.x)
		wantNoKind(t, d, 0, tower(one.x, fill), one.e)
		wantNoKind(t, d, 0, tower(one.x, fill+1), api.ErrNodes)
		wantNoKind(t, d, 0, over(api.Expr{Kind: api.ExIf}, append([]api.Expr{one.x}, make([]api.Expr, fill-1)...)...), one.e)
		wantNoKind(t, d, 0, over(api.Expr{Kind: api.ExIf}, append([]api.Expr{one.x}, make([]api.Expr, fill)...)...), api.ErrNodes)
		wantNoKind(t, d, 5, tower(one.x, fill+1), api.ErrNone)
	}
}

// P10.2: sections' numbers, below 0, the last one and one more.
func TestKindSections(t *testing.T) {
	d := kindDef(t)
	for _, section := range []int{math.MinInt, -2, -1, 5, 6, 64, math.MaxInt} {
		for _, x := range []api.Expr{reads("f"), reads("nobody"), {}, tower(reads("f"), 99), constant(numValue(badDecs[0]))} {
			wantNoKind(t, d, section, x, api.ErrNone)
		}
	}
	for section := range 5 {
		wantKind(t, d, section, reads("f"), api.VFlag, api.OK)
	}
	wantKind(t, api.Def{}, 0, constant(flagValue(true)), api.VFlag, api.OK)
	wantNoKind(t, api.Def{}, 1, constant(flagValue(true)), api.ErrNone)
	wantNoKind(t, api.Def{}, -1, constant(flagValue(true)), api.ErrNone)
}

// field is a section with a number of that name in it.
func field(section, name string, kids ...api.Section) api.Section {
	return api.Section{Name: section, Max: 1, Kids: kids, Items: []api.Item{{Name: name, Kind: api.ItField, Type: api.Type{Kind: api.VNum}}}}
}

// P10.2: what Flat leaves out is not there: sections behind the 64th one, and those deeper than 16.
func TestKindLeftOut(t *testing.T) {
	wide := api.Def{Root: field("", "a")}
	for n := range 70 {
		wide.Root.Kids = append(wide.Root.Kids, field("k"+strconv.Itoa(n+1), "b"))
	}
	if len(scope.Flat(wide)) != 64 {
		t.Fatal(len(scope.Flat(wide)))
	}
	wantKind(t, wide, 63, over(api.Expr{Kind: api.ExOp, Op: api.OpMul}, reads("a"), reads("b")), api.VNum, api.OK)
	wantNoKind(t, wide, 64, reads("a"), api.ErrNone)
	wantKind(t, wide, 0, column(api.AgSum, "k63", "b"), api.VNum, api.OK)
	wantNoKind(t, wide, 0, column(api.AgSum, "k64", "b"), api.ErrUnknown)
	wantNoKind(t, wide, 0, column(api.AgRows, "k64", ""), api.ErrUnknown)
	s := field("k20", "b20")
	for n := 19; n > 0; n-- {
		s = field("k"+strconv.Itoa(n), "b"+strconv.Itoa(n), s)
	}
	deep := api.Def{Root: field("", "a", s, field("z", "y"))}
	wantKind(t, deep, 15, over(api.Expr{Kind: api.ExOp, Op: api.OpSub}, reads("a"), reads("b15")), api.VNum, api.OK)
	wantKind(t, deep, 16, reads("y"), api.VNum, api.OK)
	wantNoKind(t, deep, 17, reads("a"), api.ErrNone)
	wantKind(t, deep, 14, column(api.AgRows, "k15", ""), api.VNum, api.OK)
	wantNoKind(t, deep, 15, column(api.AgRows, "k16", ""), api.ErrUnknown)
	wantNoKind(t, deep, 15, reads("b16"), api.ErrUnknown)
}

// R3, R4: nothing is written to what is handed in, and empty lists are as nil ones.
func TestKindOwn(t *testing.T) {
	d := kindDef(t)
	x := over(api.Expr{Kind: api.ExIf}, expr(t, "f and n > T(sum(s.sn))"), over(reads("n"), []api.Expr{}...), expr(t, "if(f, round(n, 2, up), 5)"))
	was, y := kindDef(t), over(api.Expr{Kind: api.ExIf}, expr(t, "f and n > T(sum(s.sn))"), reads("n"), expr(t, "if(f, round(n, 2, up), 5)"))
	for range 2 {
		wantKind(t, d, 0, x, api.VNum, api.OK)
		wantKind(t, d, 0, y, api.VNum, api.OK)
	}
	if !grammar.Same(d, was) || !grammar.SameExpr(x, y) {
		t.Error("Kind has written to what was handed in")
	}
	empty := api.Def{Root: api.Section{Items: []api.Item{}, Kids: []api.Section{}}, Tables: []api.Table{}, Pages: []api.Page{}}
	for _, d := range []api.Def{empty, {}} {
		wantNoKind(t, d, 0, reads("a"), api.ErrUnknown)
		wantNoKind(t, d, 0, column(api.AgRows, "a", ""), api.ErrUnknown)
		wantNoKind(t, d, 0, over(api.Expr{Kind: api.ExBracket, Name: "a"}, constant(numValue(dec(1, 0)))), api.ErrUnknown)
	}
}
