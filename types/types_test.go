package types

import (
	"math"
	"reflect"
	"slices"
	"strconv"
	"strings"
	"testing"
	"time"

	"excise/api"
	"excise/grammar"
)

// parsed is the definition of a text.
func parsed(t *testing.T, text string) api.Def {
	t.Helper()
	d, at, e := grammar.Parse(text)
	if e != api.OK {
		t.Fatalf("%q: %d at %d", text, e, at)
	}
	return d
}

// expr is the expression of a text.
func expr(t *testing.T, text string) api.Expr {
	t.Helper()
	x, at, e := grammar.Expr(text)
	if e != api.OK {
		t.Fatalf("%q: %d at %d", text, e, at)
	}
	return x
}

func many[T any](n int, one func(i int) T) []T {
	var l []T
	for i := range n {
		l = append(l, one(i))
	}
	return l
}

func dec(n uint64, scale int) api.Dec { return api.Dec{N: api.Nat{n}, Scale: scale} }

func minus(n uint64, scale int) api.Dec { return api.Dec{Neg: true, N: api.Nat{n}, Scale: scale} }

var greatest = api.Nat{math.MaxUint64, math.MaxUint64, math.MaxUint64, math.MaxUint64}

// Numbers that may be and that may not be.
var (
	goodDecs = []api.Dec{{}, dec(1, 0), dec(0, 18), dec(250, 2), minus(1, 18), minus(7, 0), {N: greatest, Scale: 18}, {Neg: true, N: greatest}}
	badDecs  = []api.Dec{dec(1, -1), dec(1, 19), minus(0, 0), minus(0, 18), dec(0, 19), dec(0, -1), minus(0, 19), {N: greatest, Scale: math.MaxInt}, {Neg: true, N: greatest, Scale: math.MinInt}}
)

func numValue(a api.Dec) api.Value { return api.Value{Kind: api.VNum, Num: a} }

func flagValue(b bool) api.Value { return api.Value{Kind: api.VFlag, Flag: b} }

func textValue(s string) api.Value { return api.Value{Kind: api.VText, Text: s} }

func constant(v api.Value) api.Expr { return api.Expr{Kind: api.ExConst, Value: v} }

func reads(name string) api.Expr { return api.Expr{Kind: api.ExName, Name: name} }

func column(op int, section, name string) api.Expr {
	return api.Expr{Kind: api.ExAgg, Op: op, Section: section, Name: name}
}

func over(x api.Expr, args ...api.Expr) api.Expr {
	x.Args = args
	return x
}

func not(x api.Expr) api.Expr { return over(api.Expr{Kind: api.ExNot}, x) }

// tower is x under so many nodes of one Arg each.
func tower(x api.Expr, levels int) api.Expr {
	for range levels {
		x = not(x)
	}
	return x
}

// P10.1: one node, Args beside one another and within one another, whatever kinds they are of.
func TestNodes(t *testing.T) {
	for text, want := range map[string]int{
		"a": 1, "1": 1, "true": 1, "rows(s)": 1, "sum(s.a)": 1, "- a": 2, "not a": 2, "blank(a)": 2, "T(a)": 2, "round(a, 2, up)": 2,
		"a + b": 3, "a + b + a": 5, "a + (b + a)": 5, "if(a, b, c)": 4, "if(a = b, - b, not c)": 8, "T(U(T(1)))": 4, "a + sum(k.b) + a": 5,
	} {
		if n := Nodes(expr(t, text)); n != want {
			t.Errorf("Nodes(%s) is %d, not %d", text, n, want)
		}
	}
	if n := Nodes(api.Expr{}); n != 1 {
		t.Error("the zero expression has so many nodes:", n)
	}
	for _, kind := range []int{math.MinInt, -1, 0, api.ExConst, api.ExName, api.ExAgg, 11, math.MaxInt} {
		one := api.Expr{Kind: kind}
		x := over(one, one, over(one, one, one, over(one, one)), over(one), one)
		if n := Nodes(x); n != 9 {
			t.Errorf("kind %d: %d nodes, not 9", kind, n)
		}
		if n := Nodes(over(one, []api.Expr{}...)); n != 1 {
			t.Errorf("kind %d, empty Args: %d nodes", kind, n)
		}
	}
	for n := range 70 {
		if got := Nodes(tower(reads("a"), n)); got != n+1 {
			t.Errorf("a tower of %d: %d", n+1, got)
		}
		if got := Nodes(over(reads("a"), make([]api.Expr, n)...)); got != n+1 {
			t.Errorf("%d Args: %d", n, got)
		}
	}
}

// P10.1: each kind at each scale.
func TestType(t *testing.T) {
	for _, kind := range []int{math.MinInt, -1, api.VBlank, api.VNum, api.VFlag, api.VText, api.VErr, 5, 6, math.MaxInt} {
		for _, scale := range []int{math.MinInt, -19, -18, -2, -1, 0, 1, 2, 9, 17, 18, 19, 20, 64, 256, math.MaxInt} {
			want := api.ErrKind
			switch {
			case kind == 1 && scale >= 0 && scale <= 18, kind == 2 && scale == 0, kind == 3 && scale == 0:
				want = api.OK
			}
			if e := Type(api.Type{Kind: kind, Scale: scale}); e != want {
				t.Errorf("Type(%d, %d) is %d, not %d", kind, scale, e, want)
			}
		}
	}
	for scale := range 19 {
		if e := Type(api.Type{Kind: api.VNum, Scale: scale}); e != api.OK {
			t.Errorf("Type of numbers of the scale %d is %d", scale, e)
		}
	}
}

func wantConst(t *testing.T, v api.Value, want api.Errno) {
	t.Helper()
	if e := Const(v); e != want {
		t.Errorf("Const(%+v) is %d, not %d", v, e, want)
	}
}

// setters set each of a value's fields to something that is not zero, by the kind whose field it is.
func setters(kind int) []func(v *api.Value) {
	all := map[int][]func(v *api.Value){
		api.VNum: {func(v *api.Value) { v.Num = dec(1, 0) }, func(v *api.Value) { v.Num = dec(0, 1) }, func(v *api.Value) { v.Num = minus(0, 0) },
			func(v *api.Value) { v.Num = dec(0, 19) }, func(v *api.Value) { v.Num.N[3] = 1 }},
		api.VFlag: {func(v *api.Value) { v.Flag = true }},
		api.VText: {func(v *api.Value) { v.Text = "x" }, func(v *api.Value) { v.Text = "\x00" }, func(v *api.Value) { v.Text = strings.Repeat("y", 99) }},
		api.VErr:  {func(v *api.Value) { v.Err = api.EvOver }, func(v *api.Value) { v.Err = -1 }, func(v *api.Value) { v.Err = 99 }},
	}
	var l []func(v *api.Value)
	for _, other := range []int{api.VNum, api.VFlag, api.VText, api.VErr} {
		if other != kind {
			l = append(l, all[other]...)
		}
	}
	return l
}

// goodConsts are constants that may be.
func goodConsts() []api.Value {
	l := []api.Value{flagValue(false), flagValue(true), textValue(""), textValue("a"), textValue(strings.Repeat("n", 63)), textValue(strings.Repeat("n", 64)),
		textValue("\x00\xff\"\n"), textValue(strings.Repeat("\xe4", 64))}
	for _, a := range goodDecs {
		l = append(l, numValue(a))
	}
	return l
}

// P10.1: constants of each kind, those that may not be, and each field that a kind does not have.
func TestConst(t *testing.T) {
	for _, v := range goodConsts() {
		wantConst(t, v, api.OK)
		for _, set := range setters(v.Kind) {
			spoilt := v
			set(&spoilt)
			wantConst(t, spoilt, api.ErrKind)
		}
	}
	for _, a := range badDecs {
		wantConst(t, numValue(a), api.ErrDecimal)
		for _, set := range setters(api.VNum) { // the number's error is named first
			spoilt := numValue(a)
			set(&spoilt)
			wantConst(t, spoilt, api.ErrDecimal)
		}
	}
	for _, long := range []int{65, 66, 128, 1 << 14} {
		wantConst(t, textValue(strings.Repeat("n", long)), api.ErrKind)
	}
	for _, kind := range []int{math.MinInt, -1, api.VBlank, api.VErr, 5, 6, math.MaxInt} {
		wantConst(t, api.Value{Kind: kind}, api.ErrKind)
		for _, set := range setters(-9) {
			v := api.Value{Kind: kind}
			set(&v)
			wantConst(t, v, api.ErrKind)
		}
	}
	for e := api.EvOver; e <= api.EvLow; e++ {
		wantConst(t, api.Value{Kind: api.VErr, Err: e}, api.ErrKind)
	}
}

// anyTypes are types, those that may not be among them.
func anyTypes() []api.Type {
	var l []api.Type
	for _, kind := range []int{math.MinInt, -1, 0, 1, 2, 3, 4, 5, math.MaxInt} {
		for _, scale := range []int{math.MinInt, -1, 0, 1, 2, 18, 19, math.MaxInt} {
			l = append(l, api.Type{Kind: kind, Scale: scale})
		}
	}
	return l
}

// P10.1: a blank fits each type, but with no other field set.
func TestFitsBlank(t *testing.T) {
	for _, of := range anyTypes() {
		if !Fits(api.Value{}, of) {
			t.Errorf("a blank does not fit %+v", of)
		}
		for _, set := range setters(api.VBlank) {
			v := api.Value{}
			set(&v)
			if Fits(v, of) {
				t.Errorf("%+v fits %+v", v, of)
			}
		}
	}
}

// P10.1: each kind of value against each type: of numbers the scale, too.
func TestFits(t *testing.T) {
	fits := 0
	for _, of := range anyTypes() {
		for _, v := range goodConsts() {
			want := v.Kind == of.Kind && (v.Kind != api.VNum || v.Num.Scale == of.Scale)
			if got := Fits(v, of); got != want {
				t.Errorf("Fits(%+v, %+v) is %t", v, of, got)
			}
			if want {
				fits++
			}
			for _, set := range setters(v.Kind) {
				spoilt := v
				set(&spoilt)
				if Fits(spoilt, of) {
					t.Errorf("%+v fits %+v", spoilt, of)
				}
			}
		}
		for _, v := range append(many(len(badDecs), func(i int) api.Value { return numValue(badDecs[i]) }), textValue(strings.Repeat("n", 65)),
			api.Value{Kind: api.VErr, Err: api.EvOver}, api.Value{Kind: api.VErr}, api.Value{Kind: -1}, api.Value{Kind: 5}, api.Value{Kind: of.Kind, Err: 1}) {
			if Fits(v, of) {
				t.Errorf("%+v fits %+v", v, of)
			}
		}
	}
	if fits < 50 {
		t.Error("only so many fit:", fits)
	}
	for scale := range 19 {
		for other := range 19 {
			for _, a := range []api.Dec{dec(0, scale), dec(100, scale), minus(100, scale)} {
				if got := Fits(numValue(a), api.Type{Kind: api.VNum, Scale: other}); got != (scale == other) {
					t.Errorf("%+v and the scale %d: %t", a, other, got)
				}
			}
		}
	}
}

func read(section, name string) api.Read { return api.Read{Section: section, Name: name} }

func wantReads(t *testing.T, x api.Expr, want ...api.Read) {
	t.Helper()
	if l := Reads(x); !slices.Equal(l, want) {
		t.Errorf("Reads(%+v)\n is %v\nnot %v", x, l, want)
	}
}

// P10.4: names and aggregates, once and more often, deep within Args, each node ahead of its Args.
func TestReads(t *testing.T) {
	for text, want := range map[string]string{
		"1": "", "true": "", "\"a\"": "", "- 1": "", "T(1)": "", "a": ".a", "- a": ".a", "T(a)": ".a", "blank(a)": ".a", "round(a, 0, up)": ".a",
		"a + b": ".a .b", "b + a": ".b .a", "a + a": ".a", "a + b + a + c + b": ".a .b .c", "c * (a + b) - a": ".c .a .b",
		"rows(s)": "s.", "sum(s.a)": "s.a", "count(s.a)": "s.a", "min(s.a)": "s.a", "max(s.a)": "s.a",
		"sum(s.a) + min(s.a) * max(s.a) - rows(s)": "s.a s.", "a + sum(s.a) + a + s": ".a s.a .s", "sum(s.a) + a + sum(u.a) + sum(s.b)": "s.a .a u.a s.b",
		"if(f, rows(s), if(g, a, T(rows(u) + f)))": ".f s. .g .a u.", "a + sum(k.b) + a": ".a k.b",
	} {
		var l []api.Read
		for _, word := range strings.Fields(want) {
			section, name, _ := strings.Cut(word, ".")
			l = append(l, read(section, name))
		}
		wantReads(t, expr(t, text), l...)
	}
}

// P10.4: expressions that no text says: Args of names and aggregates come behind these; of a name the Section counts for nothing, of other nodes Name and Section.
func TestReadsRaw(t *testing.T) {
	wantReads(t, api.Expr{})
	wantReads(t, over(reads("a"), reads("b"), over(column(0, "s", "c"), reads("d"), reads("a")), column(api.AgRows, "s", "e")),
		read("", "a"), read("", "b"), read("s", "c"), read("", "d"), read("s", "e"))
	wantReads(t, over(column(api.AgSum, "s", "a"), column(api.AgMin, "s", "a"), over(reads("b"), reads("c"), reads("b"))), read("s", "a"), read("", "b"), read("", "c"))
	wantReads(t, api.Expr{Kind: api.ExName, Name: "a", Section: "s", Op: api.AgSum}, read("", "a"))
	wantReads(t, over(api.Expr{Kind: api.ExOp, Name: "a", Section: "s"}, api.Expr{Kind: api.ExBracket, Name: "a", Section: "s"}, api.Expr{Kind: api.ExConst, Name: "b", Value: textValue("c")}))
	wantReads(t, reads(""), read("", ""))
	wantReads(t, over(reads("a"), column(api.AgSum, "", "a"), column(api.AgRows, "", "")), read("", "a"), read("", ""))
	wantReads(t, over(column(api.AgRows, "s", ""), column(api.AgRows, "s", "x"), column(api.AgCount, "s", "x"), column(99, "s", "y"), column(-1, "", "s")),
		read("s", ""), read("s", "x"), read("s", "y"), read("", "s"))
	wantReads(t, over(reads("ab"), reads("a"), column(0, "a", "b"), column(0, "", "ab"), reads("b"), reads("A")),
		read("", "ab"), read("", "a"), read("a", "b"), read("", "b"), read("", "A"))
	for _, kind := range []int{math.MinInt, -1, 0, api.ExConst, api.ExNeg, api.ExNot, api.ExOp, api.ExIf, api.ExRound, api.ExBracket, api.ExBlank, 11, math.MaxInt} {
		wantReads(t, over(api.Expr{Kind: kind, Name: "n", Section: "s"}, reads("a"), api.Expr{Kind: kind, Args: []api.Expr{reads("b")}}, reads("c")), read("", "a"), read("", "b"), read("", "c"))
	}
}

// R3, R4: what Reads answers is its owner's, what is handed in is left as it is, and empty lists are as nil ones.
func TestReadsOwn(t *testing.T) {
	x := over(reads("a"), over(column(0, "s", "b"), []api.Expr{}...), reads("c"))
	was := over(reads("a"), column(0, "s", "b"), reads("c"))
	l := Reads(x)
	if Nodes(x) != 3 || !grammar.SameExpr(x, was) {
		t.Error("Reads or Nodes has written to what was handed in")
	}
	for i := range l {
		l[i] = read("spoilt", "spoilt")
	}
	wantReads(t, x, read("", "a"), read("s", "b"), read("", "c"))
	wantReads(t, was, read("", "a"), read("s", "b"), read("", "c"))
	if !reflect.DeepEqual(Reads(x), Reads(was)) {
		t.Error("empty and nil Args differ")
	}
}

// R1 and the bound: expressions as deep as the program goes, ones with many Args, and ones that read many names.
func TestGreat(t *testing.T) {
	began := time.Now()
	deep := tower(reads("a"), 1<<16-8)
	wide := over(api.Expr{Kind: api.ExIf}, many(1<<18, func(i int) api.Expr { return reads("a" + strconv.Itoa(i/2)) })...)
	if n := Nodes(deep); n != 1<<16-7 {
		t.Error("deep:", n)
	}
	if n := Nodes(wide); n != 1<<18+1 {
		t.Error("wide:", n)
	}
	wantReads(t, deep, read("", "a"))
	if l := Reads(wide); len(l) != 1<<17 || l[77].Name != "a77" {
		t.Error("wide reads", len(l))
	}
	d := parsed(t, "return r { field a : flag ; line b : flag = a ; page p when a { } }")
	for _, x := range []api.Expr{deep, wide} {
		if kind, e := Kind(d, 0, x); kind != 0 || e != api.ErrNodes {
			t.Error("Kind:", kind, e)
		}
		c := grammar.Clone(d)
		c.Root.Items[1].Expr = x
		wantCheck(t, c, atItem(0, 1), api.ErrNodes)
		c = grammar.Clone(d)
		c.Pages[0].When = x
		wantCheck(t, c, atPage(0), api.ErrNodes)
	}
	d.Root.Items = append(d.Root.Items, many(1<<12, func(i int) api.Item {
		return api.Item{Name: "c" + strconv.Itoa(i), Kind: api.ItLine, Type: api.Type{Kind: api.VFlag}, Expr: tower(reads("c4095"), 2)}
	})...)
	wantCheck(t, d, api.Place{}, api.OK)
	if took := time.Since(began); took > 10*time.Second {
		t.Error("it took", took)
	}
}
