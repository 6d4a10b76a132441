package grammar

import (
	"reflect"
	"slices"
	"strings"
	"testing"

	"excise/api"
)

func wantShown(t *testing.T, x api.Expr, want string) {
	t.Helper()
	if s, e := Show(x); e != api.OK || s != want {
		t.Errorf("Show(%+v) is %q, %d, not %q", x, s, e, want)
	}
}

func wantPrinted(t *testing.T, d api.Def, want string) {
	t.Helper()
	if s, e := Print(d); e != api.OK || s != want {
		t.Errorf("Print(%+v) is %q, %d, not %q", d, s, e, want)
	}
}

func wantNotPrinted(t *testing.T, d api.Def, want api.Errno) {
	t.Helper()
	if s, e := Print(d); e != want || s != "" {
		t.Errorf("Print(%+v) is %q, %d, not %d", d, s, e, want)
	}
}

// P8.2: brackets round each kind of operator within each other one, on both sides.
func TestShowBrackets(t *testing.T) {
	a, b, c := name("a"), name("b"), name("c")
	for want, x := range map[string]api.Expr{
		"a or b or c":           op(api.OpOr, op(api.OpOr, a, b), c),
		"a or ( b or c )":       op(api.OpOr, a, op(api.OpOr, b, c)),
		"a and b or c":          op(api.OpOr, op(api.OpAnd, a, b), c),
		"a or b and c":          op(api.OpOr, a, op(api.OpAnd, b, c)),
		"( a or b ) and c":      op(api.OpAnd, op(api.OpOr, a, b), c),
		"a and ( b or c )":      op(api.OpAnd, a, op(api.OpOr, b, c)),
		"a and ( b and c )":     op(api.OpAnd, a, op(api.OpAnd, b, c)),
		"not a and not b":       op(api.OpAnd, not(a), not(b)),
		"not ( a and b )":       not(op(api.OpAnd, a, b)),
		"not a = b":             not(op(api.OpEq, a, b)),
		"( not a ) = b":         op(api.OpEq, not(a), b),
		"a = ( not b )":         op(api.OpEq, a, not(b)),
		"( a = b ) < c":         op(api.OpLt, op(api.OpEq, a, b), c),
		"a >= ( b != c )":       op(api.OpGe, a, op(api.OpNe, b, c)),
		"a + b > b - c":         op(api.OpGt, op(api.OpAdd, a, b), op(api.OpSub, b, c)),
		"( a = b ) + c":         op(api.OpAdd, op(api.OpEq, a, b), c),
		"a - b + c":             op(api.OpAdd, op(api.OpSub, a, b), c),
		"a + ( b - c )":         op(api.OpAdd, a, op(api.OpSub, b, c)),
		"a - ( b + c )":         op(api.OpSub, a, op(api.OpAdd, b, c)),
		"a * b * c":             op(api.OpMul, op(api.OpMul, a, b), c),
		"a * ( b * c )":         op(api.OpMul, a, op(api.OpMul, b, c)),
		"( a - b ) * c":         op(api.OpMul, op(api.OpSub, a, b), c),
		"a * ( b + c )":         op(api.OpMul, a, op(api.OpAdd, b, c)),
		"a - b * c":             op(api.OpSub, a, op(api.OpMul, b, c)),
		"- a * - b":             op(api.OpMul, neg(a), neg(b)),
		"- ( a * b )":           neg(op(api.OpMul, a, b)),
		"a - - b":               op(api.OpSub, a, neg(b)),
		"- ( not a )":           neg(not(a)),
		"not - a":               not(neg(a)),
		"( not a ) * b":         op(api.OpMul, not(a), b),
		"- 1.50":                neg(num(150, 2)),
		"blank ( a or b )":      {Kind: api.ExBlank, Args: []api.Expr{op(api.OpOr, a, b)}},
		"t ( not a )":           {Kind: api.ExBracket, Name: "t", Args: []api.Expr{not(a)}},
		"- t ( a ) * 0":         op(api.OpMul, neg(api.Expr{Kind: api.ExBracket, Name: "t", Args: []api.Expr{a}}), num(0, 0)),
		"rows ( s ) + 1":        op(api.OpAdd, api.Expr{Kind: api.ExAgg, Op: api.AgRows, Section: "s"}, num(1, 0)),
		"max ( s . a )":         {Kind: api.ExAgg, Op: api.AgMax, Section: "s", Name: "a"},
		`"\x0a" = "\""`:         op(api.OpEq, quoted("\n"), quoted("\"")),
		"true or false":         op(api.OpOr, flag(true), flag(false)),
		"if ( a or b , c , c )": {Kind: api.ExIf, Args: []api.Expr{op(api.OpOr, a, b), c, c}},
		"round ( a + b , 1073741824 , half_even )": {Kind: api.ExRound, Scale: 1 << 30, Policy: api.HalfEven, Args: []api.Expr{op(api.OpAdd, a, b)}},
	} {
		wantShown(t, x, want)
		wantExpr(t, want, x)
	}
}

// P8.2: the root's Items ahead of its Kids, then Tables, then Pages; each section's Items ahead of its Kids.
func TestPrintOrder(t *testing.T) {
	text := "return r { page p { } section s max 1 { section u max 2 { } check c = a ; } table t { from - 1 base 0 rate 0 ; } field a : flag ; }"
	d, _, _ := Parse(text)
	wantPrinted(t, d, "return r { field a : flag ; section s max 1 { check c = a ; section u max 2 { } } table t { from - 1 base 0 rate 0 ; } page p { } }")
	wantPrinted(t, api.Def{Name: "r"}, "return r { }")
	text = "return r { line t : flag = a or b ; line u : amount 0 up = a or b ; check c = a or b ; page p when a or b { } }"
	d, _, _ = Parse(text)
	wantPrinted(t, d, text)
}

// P8.2: empty lists are as good as none.
func TestPrintEmptyLists(t *testing.T) {
	x := name("x")
	x.Args = []api.Expr{}
	d := api.Def{Name: "r", Root: api.Section{
		Items: []api.Item{
			{Name: "a", Kind: api.ItField, Type: api.Type{Kind: api.VText}, Expr: api.Expr{Args: []api.Expr{}}},
			{Name: "c", Kind: api.ItCheck, Expr: x}},
		Kids: []api.Section{{Name: "s", Items: []api.Item{}, Kids: []api.Section{}}}},
		Tables: []api.Table{}, Pages: []api.Page{{Name: "p", When: api.Expr{Args: []api.Expr{}}, Items: []string{}}}}
	text := "return r { field a : text ; check c = x ; section s max 0 { } page p { } }"
	wantPrinted(t, d, text)
	read, _, _ := Parse(text)
	if !Same(d, read) || !Same(read, d) || !Same(Clone(d), read) {
		t.Error("empty lists are not as nil ones")
	}
	wantPrinted(t, api.Def{Name: "r", Root: api.Section{Items: []api.Item{}, Kids: []api.Section{}}, Tables: []api.Table{}, Pages: []api.Page{}}, "return r { }")
	wantNotPrinted(t, api.Def{Name: "r", Tables: []api.Table{{Name: "t", Steps: []api.Step{}}}}, api.ErrText)
	wantNotPrinted(t, api.Def{Name: "r", Tables: []api.Table{{Name: "t"}}}, api.ErrText)
}

// The values that each field is tried with; what no text says among them.
var (
	someInts  = []int{-1 << 63, -1, 0, 1, 2, 3, 4, 5, 6, 7, 8, 9, 10, 11, 12, 13, 14, 15, 16, 17, 18, 19, 255, 1 << 30, 1<<30 + 1, 1<<63 - 1}
	someTexts = []string{"", "a", "sum", "up", "9", "a b", "ä", "_", strings.Repeat("n", 32), strings.Repeat("n", 33), strings.Repeat("n", 64), strings.Repeat("n", 65)}
)

// changed calls visit with each thing that differs from one thing in one field, lists being longer or shorter by one.
func changed(root reflect.Value, v reflect.Value, visit func()) {
	switch v.Kind() {
	case reflect.Struct:
		for i := range v.NumField() {
			changed(root, v.Field(i), visit)
		}
	case reflect.Array:
		for i := range v.Len() {
			changed(root, v.Index(i), visit)
		}
	case reflect.Slice:
		for i := range v.Len() {
			changed(root, v.Index(i), visit)
		}
		was := reflect.ValueOf(v.Interface())
		one := reflect.New(v.Type().Elem()).Elem()
		tryWith(v, reflect.Append(was.Slice3(0, was.Len(), was.Len()), one), visit)
		if was.Len() > 0 {
			tryWith(v, reflect.Append(was.Slice3(0, was.Len(), was.Len()), was.Index(0)), visit)
			tryWith(v, was.Slice(0, was.Len()-1), visit)
		}
	case reflect.Int:
		for _, n := range someInts {
			tryWith(v, reflect.ValueOf(n), visit)
		}
	case reflect.Uint64:
		tryWith(v, reflect.ValueOf(uint64(0)), visit)
		tryWith(v, reflect.ValueOf(^uint64(0)), visit)
	case reflect.Bool:
		tryWith(v, reflect.ValueOf(!v.Bool()), visit)
	case reflect.String:
		for _, s := range someTexts {
			tryWith(v, reflect.ValueOf(s), visit)
		}
	default:
		panic(v.Kind())
	}
}

func tryWith(v, other reflect.Value, visit func()) {
	was := reflect.New(v.Type()).Elem()
	was.Set(v)
	if reflect.DeepEqual(was.Interface(), other.Interface()) {
		return
	}
	v.Set(other)
	visit()
	v.Set(was)
}

// Every kind of thing that a definition can have.
const everyKind = `return r { field a : amount 2 needed ; field f : flag ; field g : text ; line t : amount 0 half_up = if ( true , "x" , 1.5 ) ; line u : flag = not a ; ` +
	`line v : text = - T ( a ) ; check c = round ( a + b , 1 , down ) ; check d = blank ( rows ( s ) ) ; section s max 10 { check e = min ( s . a ) ; section w max 0 { } } ` +
	`table T { from 0 base 0.0 rate - 0.1 ; from 1 base 2 rate 3 ; } page p when not x { a , s } page q { } }`

// P8.2, P8.3, P8.4: of each definition that differs in one field: what Print takes is read back as it is; what it does not take no rule says (which is asked of rules of the test's own); Same tells it from the other one.
func TestChangedDef(t *testing.T) {
	whole, _, e := Parse(everyKind)
	if e != api.OK {
		t.Fatal("Parse", e)
	}
	d := Clone(whole)
	taken, refused := 0, 0
	changed(reflect.ValueOf(&d), reflect.ValueOf(&d).Elem(), func() {
		if Same(d, whole) || Same(whole, d) || !Same(d, Clone(d)) {
			t.Errorf("Same does not tell\n%+v\n%+v", d, whole)
		}
		if !textSays(d) {
			refused++
			wantNotPrinted(t, d, api.ErrText)
			return
		}
		taken++
		text, e := Print(d)
		if e != api.OK {
			t.Errorf("Print(%+v) is %d", d, e)
		}
		if back, at, e := Parse(text); e != api.OK || !Same(back, d) {
			t.Errorf("Parse(%q) is %+v, %d, %d, not %+v", text, back, at, e, d)
		}
	})
	if !reflect.DeepEqual(d, whole) || taken < 200 || refused < 3000 {
		t.Error("the definition was not gone through:", taken, refused)
	}
}

// P8.2, P8.3: likewise of expressions alone.
func TestChangedExpr(t *testing.T) {
	for _, text := range []string{"1", "0.00", "\"x\"", "true", "false", "a", "- a", "not a", "a + b", "a or b", "if ( a , b , c )", "round ( a , 0 , up )", "t ( a )", "blank ( a )", "rows ( s )", "sum ( s . a )", "max ( s . a )"} {
		x, _, e := Expr(text)
		if e != api.OK {
			t.Fatal(text, e)
		}
		was, _, _ := Expr(text)
		changed(reflect.ValueOf(&x), reflect.ValueOf(&x).Elem(), func() {
			if SameExpr(x, was) || SameExpr(was, x) || !SameExpr(x, x) {
				t.Errorf("SameExpr does not tell %+v %+v", x, was)
			}
			if !exprSays(x) {
				wantNotShown(t, x, api.ErrText)
				return
			}
			s, e := Show(x)
			if e != api.OK {
				t.Errorf("Show(%+v) is %d", x, e)
			}
			if back, at, e := Expr(s); e != api.OK || !SameExpr(back, x) {
				t.Errorf("Expr(%q) is %+v, %d, %d, not %+v", s, back, at, e, x)
			}
		})
	}
}

// textSays tells by rules of the test's own whether a text says d, of those that everyKind is changed to.
func textSays(d api.Def) bool {
	ok := named(d.Name) && d.Root.Name == "" && d.Root.Max == 0
	ok = ok && partsSay(d.Root)
	for _, t := range d.Tables {
		ok = ok && named(t.Name) && len(t.Steps) != 0
		for _, s := range t.Steps {
			for _, n := range []api.Dec{s.From, s.Base, s.Rate} {
				ok = ok && n.Scale >= 0 && n.Scale <= 18 && (!n.Neg || n.N[0]|n.N[1]|n.N[2]|n.N[3] != 0)
			}
		}
	}
	for _, p := range d.Pages {
		none := reflect.DeepEqual(p.When, api.Expr{})
		ok = ok && named(p.Name) && (none || exprSays(p.When)) && !slices.ContainsFunc(p.Items, func(s string) bool { return !named(s) })
	}
	return ok
}

func named(s string) bool {
	return s == "a" || s == "_" || s == strings.Repeat("n", 32) || len(s) == 1 && s >= "a" && s <= "z" || s == "T"
}

func upTo30(n int) bool { return 0 <= n && n <= 1073741824 }

func partsSay(s api.Section) bool {
	for _, i := range s.Items {
		hasType := i.Type.Kind == 1 && upTo30(i.Type.Scale) || i.Type == api.Type{Kind: 2} || i.Type == api.Type{Kind: 3}
		noExpr := reflect.DeepEqual(i.Expr, api.Expr{})
		hasPolicy := i.Policy >= 1 && i.Policy <= 5
		field := i.Kind == 1 && hasType && noExpr && i.Policy == 0
		line := i.Kind == 2 && hasType && !i.Need && exprSays(i.Expr) && (i.Type.Kind == 1 && hasPolicy || i.Type.Kind != 1 && i.Policy == 0)
		check := i.Kind == 3 && i.Type == api.Type{} && !i.Need && i.Policy == 0 && exprSays(i.Expr)
		if !named(i.Name) || !field && !line && !check {
			return false
		}
	}
	for _, kid := range s.Kids {
		if !named(kid.Name) || !upTo30(kid.Max) || !partsSay(kid) {
			return false
		}
	}
	return true
}

// exprSays tells by the fields that are not zero, as texts, whether each kind has its own.
func exprSays(x api.Expr) bool {
	for _, arg := range x.Args {
		if !exprSays(arg) {
			return false
		}
	}
	var has []string
	v := reflect.ValueOf(x)
	for i := range v.NumField() {
		n := v.Type().Field(i).Name
		if n == "Args" && v.Field(i).Len() == 0 || v.Field(i).IsZero() || n == "Kind" {
			continue
		}
		has = append(has, n)
	}
	fields := strings.Join(has, " ")
	args := len(x.Args)
	switch x.Kind {
	case 1:
		return fields == "Value" && constSays(x.Value)
	case 2:
		return fields == "Name" && named(x.Name)
	case 3, 4, 9:
		return fields == "Args" && args == 1
	case 5:
		return fields == "Op Args" && args == 2 && x.Op >= 1 && x.Op <= 11
	case 6:
		return fields == "Args" && args == 3
	case 7:
		return (fields == "Scale Policy Args" || fields == "Policy Args") && args == 1 && upTo30(x.Scale) && x.Policy >= 1 && x.Policy <= 5
	case 8:
		return fields == "Name Args" && args == 1 && named(x.Name)
	case 10:
		return fields == "Op Section" && x.Op == 16 && named(x.Section) ||
			fields == "Op Name Section" && x.Op >= 12 && x.Op <= 15 && named(x.Section) && named(x.Name)
	}
	return false
}

func constSays(v api.Value) bool {
	n := v.Num
	noNum := n == api.Dec{}
	switch v.Kind {
	case 1:
		return !n.Neg && n.Scale >= 0 && n.Scale <= 18 && !v.Flag && v.Text == "" && v.Err == 0
	case 2:
		return noNum && v.Text == "" && v.Err == 0
	case 3:
		return noNum && !v.Flag && v.Err == 0 && len(v.Text) <= 64
	}
	return false
}

// P8.2: texts of any bytes, up to MaxText of them.
func TestShowTexts(t *testing.T) {
	for b := range 256 {
		x := quoted(string([]byte{byte(b), 'x', byte(b)}))
		s, e := Show(x)
		if e != api.OK {
			t.Error(b, e)
		}
		wantExpr(t, s, x)
	}
	wantShown(t, quoted(strings.Repeat("x", 64)), "\""+strings.Repeat("x", 64)+"\"")
	wantNotShown(t, quoted(strings.Repeat("x", 65)), api.ErrText)
}

// P8.2: just short enough, and one byte too long; what no text says comes first.
func TestPrintLong(t *testing.T) {
	var x api.Expr
	text := strings.Repeat("- ", api.MaxSource/2-1) + "xy"
	x, _, _ = Expr(text)
	wantShown(t, x, text)
	long := neg(name("xyz"))
	for range api.MaxSource/2 - 2 {
		long = neg(long)
	}
	wantNotShown(t, long, api.ErrLong)
	if len(text) != api.MaxSource {
		t.Error("not as long as it may be:", len(text))
	}
	// Between words a blank is counted too: each line is ahead of one that is longer by a byte.
	d := api.Def{Name: "r"}
	item := api.Item{Name: "a", Kind: api.ItField, Type: api.Type{Kind: api.VFlag}} // field a : flag ; and a blank: 17 bytes
	for range (api.MaxSource - len("return r { }")) / 17 {
		d.Root.Items = append(d.Root.Items, item)
	}
	s, e := Print(d)
	rest := api.MaxSource - len(s)
	if e != api.OK || rest >= 17 {
		t.Fatal("Print", e, len(s))
	}
	d.Root.Items[0].Name = strings.Repeat("a", 1+rest)
	if s, e := Print(d); e != api.OK || len(s) != api.MaxSource {
		t.Error("Print of what is just short enough:", e, len(s))
	} else {
		wantDef(t, s, d)
	}
	d.Root.Items[0].Name += "a"
	wantNotPrinted(t, d, api.ErrLong)
	d.Root.Items[len(d.Root.Items)-1].Name = "sum"
	wantNotPrinted(t, d, api.ErrText)
	d.Root.Items = slices.Repeat([]api.Item{item}, 1<<16)
	wantNotPrinted(t, d, api.ErrLong)
	d.Pages = []api.Page{{}}
	wantNotPrinted(t, d, api.ErrText)
}

// P8.5: what Parse tells of a text without blanks may be too long for Print.
func TestPrintTooLongOfShort(t *testing.T) {
	d, _, e := Parse("return r{check c=" + strings.Repeat("a+", 8000) + "a;}")
	if e != api.OK {
		t.Fatal(e)
	}
	wantNotPrinted(t, d, api.ErrLong)
	wantNotShown(t, d.Root.Items[0].Expr, api.ErrLong)
}

// P8.3: spots at each kind of place.
func TestSpots(t *testing.T) {
	text := "return r{page p when x{a}field a:flag;section s max 1{line b:flag=a;section u max 1{check c=a;}check d=a;}\n// field z\ntable T{from 0 base 0 rate 0;}check e=sum(s.b)=a;section w max 1{field a:text;}page q{}table t{from 0 base 0 rate 0;}}"
	at := func(ahead string) int { return strings.Index(text, ahead) + len(ahead) }
	want := []api.Spot{
		{Place: api.Place{Kind: api.PlDef}, At: 7},
		{Place: api.Place{Kind: api.PlPage}, At: at("page ")},
		{Place: api.Place{Kind: api.PlItem}, At: at("field ")},
		{Place: api.Place{Kind: api.PlSection, Section: 1}, At: at("section ")},
		{Place: api.Place{Kind: api.PlItem, Section: 1}, At: at("line ")},
		{Place: api.Place{Kind: api.PlSection, Section: 2}, At: at("=a;section ")},
		{Place: api.Place{Kind: api.PlItem, Section: 2}, At: at("1{check ")},
		{Place: api.Place{Kind: api.PlItem, Section: 1, Item: 1}, At: at(";}check ")},
		{Place: api.Place{Kind: api.PlTable}, At: at("\ntable ")},
		{Place: api.Place{Kind: api.PlItem, Item: 1}, At: at("0;}check ")},
		{Place: api.Place{Kind: api.PlSection, Section: 3}, At: at(")=a;section ")},
		{Place: api.Place{Kind: api.PlItem, Section: 3}, At: at("1{field ")},
		{Place: api.Place{Kind: api.PlPage, Page: 1}, At: at(";}page ")},
		{Place: api.Place{Kind: api.PlTable, Table: 1}, At: at("{}table ")},
	}
	if l, e := Spots(text); e != api.OK || !slices.Equal(l, want) {
		t.Errorf("Spots(%q)\n is %v, %d\nnot %v", text, l, e, want)
	}
}

// P8.3: sections that chapter 9's Flat leaves out do not change the numbers of those that it tells.
func TestSpotsOfMany(t *testing.T) {
	open := func(n int) string { return strings.Repeat("section s max 1{", n) }
	numbers := func(text string) []int {
		l, e := Spots("return r{" + text + "}")
		if e != api.OK {
			t.Error(text, e)
		}
		var made []int
		for _, s := range l[1:] {
			made = append(made, s.Place.Section)
		}
		return made
	}
	upTo := func(n int) []int {
		var made []int
		for i := range n {
			made = append(made, i+1)
		}
		return made
	}
	if l := numbers(strings.Repeat("section s max 1{}", 100)); !slices.Equal(l, upTo(100)) {
		t.Error("many sections:", l)
	}
	if l := numbers(open(100) + strings.Repeat("}", 100)); !slices.Equal(l, upTo(100)) {
		t.Error("deep sections:", l)
	}
	// The root is 1 deep: with 15 sections within one another all are told, with a 16th that one is not, nor what is in it.
	if l := numbers(open(15) + strings.Repeat("}", 15) + open(1) + "field a:flag;}"); !slices.Equal(l, append(upTo(16), 16)) {
		t.Error("15 deep sections, and one:", l)
	}
	if l := numbers(open(16) + "field a:flag;" + strings.Repeat("}", 16) + open(1) + "field a:flag;}"); !slices.Equal(l, append(upTo(15), 17, 17, 16, 16)) {
		t.Error("16 deep sections, and one:", l)
	}
}

// P8.3, R3: what is cloned, or read, shares no memory with anything: what is changed in one place is changed there alone.
func TestClone(t *testing.T) {
	whole, _, _ := Parse(everyKind)
	kept, _, _ := Parse(everyKind)
	made := Clone(whole)
	changed(reflect.ValueOf(&made), reflect.ValueOf(&made).Elem(), func() {
		if !reflect.DeepEqual(whole, kept) {
			t.Fatal("Clone shares memory with what it was made of")
		}
	})
	made = Clone(whole)
	grown := append(made.Root.Items, made.Root.Items[0])
	grown[0].Name = "other"
	made.Root.Items[3].Expr.Args[0].Value.Flag = false
	made.Root.Kids[0].Items[0].Expr.Section = "other"
	made.Root.Kids[0].Kids[0].Name = "other"
	made.Tables[0].Steps[1].From.Neg = true
	made.Pages[0].When.Args[0].Name = "other"
	made.Pages[0].Items[0] = "other"
	if !reflect.DeepEqual(whole, kept) || Same(made, whole) {
		t.Error("Clone shares memory with what it was made of")
	}
	if !reflect.DeepEqual(Clone(api.Def{}), api.Def{}) || !Same(api.Def{}, api.Def{}) {
		t.Error("Clone of nothing")
	}
}

// R3: two answers share no memory, nor do an answer's lists.
func TestOwnMemory(t *testing.T) {
	a, _, _ := Parse(everyKind)
	b, _, _ := Parse(everyKind)
	changed(reflect.ValueOf(&a), reflect.ValueOf(&a).Elem(), func() {
		if again, _, _ := Parse(everyKind); !reflect.DeepEqual(again, b) {
			t.Fatal("Parse hands out what it keeps")
		}
	})
	l, _ := Spots(everyKind)
	for i := range l {
		l[i].At = -1
	}
	if again, _ := Spots(everyKind); again[0].At != 7 {
		t.Error("Spots hands out what it keeps")
	}
}

// P8.3: whatever is in them, also what no text says.
func TestSameOfAny(t *testing.T) {
	d := api.Def{Name: "sum", Root: api.Section{Name: "x", Items: []api.Item{{Kind: 9, Expr: api.Expr{Kind: -1, Args: []api.Expr{{}, {Scale: -1}}}}}}}
	if !Same(d, Clone(d)) || Same(d, api.Def{}) || !SameExpr(api.Expr{Args: []api.Expr{}}, api.Expr{}) || SameExpr(api.Expr{Args: []api.Expr{{}}}, api.Expr{}) {
		t.Error("Same")
	}
	zero, signed := num(0, 0), num(0, 0)
	signed.Value.Num.Neg = true
	if SameExpr(zero, signed) || SameExpr(num(10, 1), num(1, 0)) {
		t.Error("SameExpr takes numbers that differ in a field as the same")
	}
}
