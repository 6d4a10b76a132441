package schema

import (
	"math"
	"reflect"
	"slices"
	"strconv"
	"strings"
	"testing"
	"time"

	"excise/api"
	"excise/grammar"
	"excise/ranks"
	"excise/scope"
)

// made is the schema of a text that must be accepted.
func made(t *testing.T, text string) *Schema {
	t.Helper()
	s, at, e := New(text)
	if s == nil || at != 0 || e != api.OK {
		t.Fatalf("New(%.2000q) is %v, %d, %d", text, s, at, e)
	}
	return s
}

// Numbers that nothing of a definition has.
var farOff = []int{-1, -2, math.MinInt, math.MinInt + 1, 1 << 20, 1 << 32, math.MaxInt - 1, math.MaxInt}

// hold holds each answer of a schema against what the layers below say of its definition.
func hold(t *testing.T, s *Schema, d api.Def) {
	t.Helper()
	text, e := grammar.Print(d)
	if got := s.Text(); got != text || e != api.OK {
		t.Errorf("Text is %q, not %q", got, text)
	}
	if got := s.Def(); !grammar.Same(got, d) {
		t.Errorf("%.2000q: Def is %+v", text, got)
	}
	l := scope.Flat(d)
	if got := s.Sects(); !reflect.DeepEqual(got, l) {
		t.Errorf("%.2000q: Sects is %+v, not %+v", text, got, l)
	}
	holdItems(t, s, l)
	holdRanks(t, s, l)
	for section := range l {
		wantColumns(t, s, section, columnsByWords(l, section)...)
	}
	for _, section := range append(farOff, len(l), len(l)+1) {
		wantColumns(t, s, section)
	}
	holdTables(t, s, d)
}

// holdItems: numbers there and back, at all sections and places and beyond these.
func holdItems(t *testing.T, s *Schema, l []api.Sect) {
	t.Helper()
	many := 0
	for section := range l {
		for place, item := range l[section].Items {
			if got, ok := s.Item(many); !ok || !reflect.DeepEqual(got, item) {
				t.Errorf("Item(%d) is %+v, %t, not %+v", many, got, ok, item)
			}
			if n, ok := s.Number(section, place); n != many || !ok {
				t.Errorf("Number(%d, %d) is %d, %t, not %d", section, place, n, ok, many)
			}
			many++
		}
	}
	if got := s.Items(); got != many {
		t.Errorf("Items is %d, not %d", got, many)
	}
	for _, n := range append(farOff, many, many+1) {
		if got, ok := s.Item(n); ok || !reflect.DeepEqual(got, api.Item{}) {
			t.Errorf("Item(%d) is %+v, %t", n, got, ok)
		}
	}
	for _, section := range append(farOff, 0, 1, len(l)-1, len(l), len(l)+1) {
		places := []int{0, 1}
		if section >= 0 && section < len(l) {
			places = []int{len(l[section].Items), len(l[section].Items) + 1}
		}
		for _, place := range append(places, farOff...) {
			if n, ok := s.Number(section, place); n != 0 || ok {
				t.Errorf("Number(%d, %d) is %d, %t", section, place, n, ok)
			}
		}
	}
}

// holdRanks: ranks, order and users, as ranks tells them.
func holdRanks(t *testing.T, s *Schema, l []api.Sect) {
	t.Helper()
	wantRanks, e := ranks.Ranks(l)
	order, f := ranks.Order(l)
	if e != api.OK || f != api.OK || !slices.Equal(s.Order(), order) {
		t.Errorf("Order is %d, not %d, %d, %d", s.Order(), order, e, f)
	}
	for n, want := range wantRanks {
		if got := s.Rank(n); got != want {
			t.Errorf("Rank(%d) is %d, not %d", n, got, want)
		}
		if got, want := s.Users(n), ranks.Users(l, n); !slices.Equal(got, want) {
			t.Errorf("Users(%d) is %d, not %d", n, got, want)
		}
	}
	for _, n := range append(farOff, len(wantRanks), len(wantRanks)+1) {
		if rank, users := s.Rank(n), s.Users(n); rank != 0 || len(users) != 0 {
			t.Errorf("of %d Rank is %d, Users is %d", n, rank, users)
		}
	}
}

// holdTables: tables by their names, and names that no table has.
func holdTables(t *testing.T, s *Schema, d api.Def) {
	t.Helper()
	names := []string{"", " ", "table", "nobody", d.Name, "T", "t", "a\x00"}
	for _, table := range d.Tables {
		names = append(names, table.Name, table.Name+"_", strings.ToUpper(table.Name), table.Name[1:])
	}
	for _, page := range d.Pages {
		names = append(names, page.Name)
	}
	for _, name := range names {
		var want api.Table
		n, ok := scope.Table(d, name)
		if ok {
			want = d.Tables[n]
		}
		if got, found := s.Table(name); found != ok || !reflect.DeepEqual(got, want) {
			t.Errorf("Table(%q) is %+v, %t, not %+v, %t", name, got, found, want, ok)
		}
	}
}

// columnsByWords: by the chapter's own words, of each item of a section, whether an aggregate of the parent's items has its section's name and its own.
func columnsByWords(l []api.Sect, section int) []int {
	var places []int
	parent := l[section].Parent
	for place, item := range l[section].Items {
		for n := range l {
			if n != parent {
				continue
			}
			for _, of := range l[n].Items {
				if slices.ContainsFunc(nodesOf(of.Expr), func(x api.Expr) bool {
					return x.Kind == api.ExAgg && x.Op != api.AgRows && x.Section == l[section].Name && x.Name == item.Name
				}) && !slices.Contains(places, place) {
					places = append(places, place)
				}
			}
		}
	}
	return places
}

func nodesOf(x api.Expr) []api.Expr {
	l := []api.Expr{x}
	for _, arg := range x.Args {
		l = append(l, nodesOf(arg)...)
	}
	return l
}

func wantColumns(t *testing.T, s *Schema, section int, want ...int) {
	t.Helper()
	if got := s.Columns(section); !slices.Equal(got, want) {
		t.Errorf("Columns(%d) is %d, not %d, of %q", section, got, want, s.Text())
	}
}

// rich is a definition with something of each kind.
const rich = `return r { field a : amount 2 needed ; field on : flag ; field note : text ;
	line t : amount 0 up = sum ( k . y ) + T ( a ) ; check c = t > a ; line w : text = if ( on , note , "none" ) ;
	section k max 5 { field b : amount 1 ; line y : amount 1 down = b * a + max ( d . h ) ; check e = y >= 0 ;
		section d max 9 { field h : amount 3 ; line z : flag = h > b ; } section m max 1 { } }
	section o max 1024 { line q : amount 18 floor = U ( t ) - rows ( v ) ; section v max 2 { field g : text needed ; } }
	table T { from 0 base 0 rate 0.1 ; from 10.5 base 1 rate - 0.25 ; } table U { from - 1 base 2 rate 3 ; }
	page p when on and c2 { a , k } page p2 { o , on } line c2 : flag = not blank ( note ) ; }`

// P12.2: what is known of a definition, told by hand.
func TestAnswers(t *testing.T) {
	s := made(t, rich)
	hold(t, s, parsed(t, rich))
	if s.Items() != 14 || len(s.Sects()) != 6 {
		t.Error("Items", s.Items(), "Sects", len(s.Sects()))
	}
	if want := strings.Join(strings.Fields(rich), " "); len(s.Text()) != len(want) || !strings.HasSuffix(s.Text(), "page p when on and c2 { a , k } page p2 { o , on } }") {
		t.Error("Text", s.Text())
	}
	// Of the root a 0, on 1, note 2, t 3, c 4, w 5, c2 6; of k b 7, y 8, e 9; of d h 10, z 11; of m none; of o q 12; of v g 13.
	for n, name := range strings.Fields("a on note t c w c2 b y e h z q g") {
		if item, ok := s.Item(n); item.Name != name || !ok {
			t.Errorf("Item(%d) is %+v, %t, not %s", n, item, ok, name)
		}
	}
	for n, rank := range []int{0, 0, 0, 2, 3, 1, 1, 0, 1, 2, 0, 1, 3, 0} {
		if got := s.Rank(n); got != rank {
			t.Errorf("Rank(%d) is %d, not %d", n, got, rank)
		}
	}
	if want := []int{0, 1, 2, 7, 10, 13, 5, 6, 8, 11, 3, 9, 4, 12}; !slices.Equal(s.Order(), want) {
		t.Error("Order", s.Order())
	}
	for n, want := range [][]int{{3, 4, 8}, {5}, {5, 6}, {4, 12}, {}, {}, {}, {8, 11}, {3, 9}, {}, {8, 11}, {}, {}, {}} {
		if got := s.Users(n); !slices.Equal(got, want) {
			t.Errorf("Users(%d) is %d, not %d", n, got, want)
		}
	}
	for section, want := range [][]int{{}, {1}, {0}, {}, {}, {}} {
		wantColumns(t, s, section, want...)
	}
	if table, ok := s.Table("U"); !ok || table.Name != "U" || len(table.Steps) != 1 || !table.Steps[0].From.Neg {
		t.Error("Table", table, ok)
	}
}

// P12.2: columns that are read once, twice, in items of each kind and deep within an expression; not those of which rows are counted alone, nor what a page reads, nor a namesake's.
func TestColumns(t *testing.T) {
	for _, x := range []struct {
		text string
		want [][]int
	}{
		{"field a : amount 0 ; line b : amount 0 up = a ;", [][]int{{}}},
		{"section k max 1 { field a : amount 0 ; field b : amount 0 ; }", [][]int{{}, {}}},
		{"section k max 1 { field a : amount 0 ; field b : amount 0 ; } line x : amount 0 up = rows ( k ) ;", [][]int{{}, {}}},
		{"section k max 1 { field a : amount 0 ; field b : amount 0 ; } line x : amount 0 up = sum ( k . b ) ;", [][]int{{}, {1}}},
		{"section k max 1 { field a : amount 0 ; field b : amount 0 ; } line x : amount 0 up = sum ( k . b ) + rows ( k ) ;", [][]int{{}, {1}}},
		{"section k max 1 { field a : amount 0 ; field b : amount 0 ; } line x : amount 0 up = sum ( k . b ) + sum ( k . b ) + min ( k . b ) ;", [][]int{{}, {1}}},
		{"section k max 1 { field a : amount 0 ; field b : amount 0 ; } line x : amount 0 up = max ( k . b ) ; line y : amount 0 up = sum ( k . b ) ; check z = 0 = count ( k . b ) ;", [][]int{{}, {1}}},
		{"section k max 1 { field a : amount 0 ; field b : amount 0 ; } line x : amount 0 up = max ( k . b ) - min ( k . a ) ;", [][]int{{}, {0, 1}}},
		{"section k max 1 { field a : flag ; check b = a ; field c : text ; line d : amount 0 up = 1 ; } check x = count ( k . d ) > count ( k . c ) or count ( k . a ) = 0 ;", [][]int{{}, {0, 2, 3}}},
		{"section k max 1 { field a : amount 0 ; } line x : text = if ( not blank ( - round ( sum ( k . a ) , 2 , up ) ) , \"a\" , \"b\" ) ;", [][]int{{}, {0}}},
		{"section k max 1 { field a : amount 0 ; } check x = T ( sum ( k . a ) ) > 0 ; table T { from 0 base 0 rate 0 ; }", [][]int{{}, {0}}},
		{"section k max 1 { field a : amount 0 ; } page p when sum ( k . a ) > 0 { k }", [][]int{{}, {}}},
		// A namesake in another section, at the same depth and deeper; and items of the same name.
		{"section s max 1 { section k max 1 { field a : amount 0 ; } line x : amount 0 up = sum ( k . a ) ; } section u max 1 { section k max 1 { field a : amount 0 ; } }", [][]int{{}, {}, {0}, {}, {}}},
		{"section s max 1 { section k max 1 { field a : amount 0 ; } } section u max 1 { section k max 1 { field b : amount 0 ; field a : amount 0 ; } line x : amount 0 up = sum ( k . a ) ; }", [][]int{{}, {}, {}, {}, {1}}},
		{"section k max 1 { field a : amount 0 ; } section u max 1 { section m max 1 { field a : amount 0 ; } line x : amount 0 up = sum ( m . a ) ; } line y : amount 0 up = rows ( k ) ;", [][]int{{}, {}, {}, {0}}},
		// What is read by its name, of its own section or of one around it, is no column.
		{"field a : amount 0 ; section k max 1 { field b : amount 0 ; line x : amount 0 up = a + b ; section m max 1 { line y : amount 0 up = b + a + x ; } }", [][]int{{}, {}, {}}},
		{within(3, "field b : amount 0 ; field a : amount 0 ;"), [][]int{{}, {}, {}, {}}},
		{"line r3 : amount 0 up = sum ( s1 . r2 ) ; section s1 max 1 { field e : flag ; line r2 : amount 0 up = sum ( s2 . r1 ) ; section s2 max 1 { field f : flag ; field g : flag ; line r1 : amount 0 up = sum ( s3 . a ) ; section s3 max 1 { field a : amount 0 ; } } }", [][]int{{}, {1}, {2}, {0}}},
	} {
		s := made(t, "return r { "+x.text+" }")
		if got := len(s.Sects()); got != len(x.want) {
			t.Fatal(x.text, got)
		}
		for section, want := range x.want {
			wantColumns(t, s, section, want...)
			if len(want) == 0 && s.Columns(section) != nil {
				t.Error("columns that there are not are a list")
			}
		}
		hold(t, s, s.Def())
	}
}

// unmade holds all answers of a schema that no call made.
func unmade(t *testing.T, s *Schema) {
	t.Helper()
	if d := s.Def(); !reflect.DeepEqual(d, api.Def{}) {
		t.Error("Def", d)
	}
	if s.Text() != "" || s.Items() != 0 || len(s.Sects()) != 0 || len(s.Order()) != 0 {
		t.Error(s.Text(), s.Items(), s.Sects(), s.Order())
	}
	for _, n := range append(farOff, 0, 1) {
		if item, ok := s.Item(n); ok || !reflect.DeepEqual(item, api.Item{}) {
			t.Error("Item", n, item, ok)
		}
		if s.Rank(n) != 0 || len(s.Users(n)) != 0 || len(s.Columns(n)) != 0 {
			t.Error(n, s.Rank(n), s.Users(n), s.Columns(n))
		}
		for _, m := range append(farOff, 0, 1) {
			if got, ok := s.Number(n, m); got != 0 || ok {
				t.Error("Number", n, m, got, ok)
			}
		}
	}
	for _, name := range []string{"", "a", "T"} {
		if table, ok := s.Table(name); ok || !reflect.DeepEqual(table, api.Table{}) {
			t.Error("Table", table, ok)
		}
	}
}

// P12.2 and R5: schemas that no call made.
func TestUnmade(t *testing.T) {
	unmade(t, nil)
	unmade(t, &Schema{})
	unmade(t, new(Schema))
	refused, _, e := New("return r { line a : flag = a ; }")
	if e != api.ErrCycle {
		t.Error(e)
	}
	unmade(t, refused)
}

// P12.2: a definition without items, tables and pages has answers of its own.
func TestEmpty(t *testing.T) {
	for _, d := range []api.Def{{Name: "r"}, {Name: "r", Root: api.Section{Items: []api.Item{}, Kids: []api.Section{}}, Tables: []api.Table{}, Pages: []api.Page{}}} {
		s, place, e := Of(d)
		if place != (api.Place{}) || e != api.OK {
			t.Fatal(place, e)
		}
		hold(t, s, d)
		if s.Text() != "return r { }" || s.Items() != 0 || !reflect.DeepEqual(s.Sects(), []api.Sect{{Parent: -1, Depth: 1}}) || len(s.Order()) != 0 {
			t.Error(s.Text(), s.Items(), s.Sects(), s.Order())
		}
	}
}

// scribble changes all that a value leads to.
func scribble(v reflect.Value) {
	switch v.Kind() {
	case reflect.Pointer:
		scribble(v.Elem())
	case reflect.Struct:
		for i := range v.NumField() {
			scribble(v.Field(i))
		}
	case reflect.Slice, reflect.Array:
		for i := range v.Len() {
			scribble(v.Index(i))
		}
	case reflect.String:
		v.SetString("scribbled")
	case reflect.Bool:
		v.SetBool(!v.Bool())
	case reflect.Int, reflect.Int64:
		v.SetInt(v.Int() + 7)
	case reflect.Uint64:
		v.SetUint(v.Uint() + 7)
	}
}

// R3: what is handed in is not kept, and not written to.
func TestHandedIn(t *testing.T) {
	d, same := parsed(t, rich), parsed(t, rich)
	s, _, e := Of(d)
	if e != api.OK || !reflect.DeepEqual(d, same) {
		t.Fatal("Of has written to what it was handed", e)
	}
	scribble(reflect.ValueOf(&d))
	hold(t, s, same)
	for _, text := range []string{"return r { line a : flag = a ; }", "return r { field a : flag ; field a : text ; }", "return r { line a : flag = 1 ; page p { } }"} {
		d, same := parsed(t, text), parsed(t, text)
		Of(d)
		if !reflect.DeepEqual(d, same) {
			t.Error("Of has written to what it refused")
		}
	}
}

// R3: what is told is nobody's else: neither the schema's nor that of one who asked ahead.
func TestToldAlone(t *testing.T) {
	s, d := made(t, rich), parsed(t, rich)
	ask := func(s *Schema) []any {
		def, sects, order := s.Def(), s.Sects(), s.Order()
		l := []any{&def, &sects, &order}
		for n := range s.Items() {
			item, _ := s.Item(n)
			users := s.Users(n)
			l = append(l, &item, &users)
		}
		for section := range sects {
			columns := s.Columns(section)
			l = append(l, &columns)
		}
		for _, name := range []string{"T", "U"} {
			table, _ := s.Table(name)
			l = append(l, &table)
		}
		return l
	}
	first, second, want := ask(s), ask(s), ask(made(t, rich))
	for i := range first {
		scribble(reflect.ValueOf(first[i]))
		if !reflect.DeepEqual(second, want) {
			t.Fatalf("the answer %d is another one's, too", i)
		}
	}
	hold(t, s, d)
	// A list may be made longer without another one's seeing it.
	for n := range s.Items() {
		_ = append(s.Users(n), -1)
		_ = append(s.Order(), -1)
		_ = append(s.Columns(n), -1)
	}
	hold(t, s, d)
}

// P12.2: a schema answers the same however often it is asked, and as another one of the same definition (R6).
func TestSameAgain(t *testing.T) {
	s := made(t, rich)
	for range 3 {
		hold(t, s, parsed(t, rich))
		if !reflect.DeepEqual(s, made(t, rich)) {
			t.Error("schemas of one definition are not the same")
		}
	}
}

// A limit is a text with as much of something as there may be, and one with one more.
type limit struct {
	text func(many int) string
	most int
	e    api.Errno
}

func limits() []limit {
	list := func(many int, text, between string) string {
		return strings.Join(strings.Fields(several(many, text)), between)
	}
	return []limit{
		{func(n int) string { return several(n, "table t# { from 0 base 0 rate 0 ; }") }, api.MaxTables, api.ErrSize},
		{func(n int) string { return several(n-1, "section s# max 1 { field a : flag ; }") }, api.MaxSections, api.ErrSize},
		{func(n int) string { return within(n-1, "field a : flag ;") }, api.MaxDepth, api.ErrSize},
		{func(n int) string { return several(n, "page p# { }") }, api.MaxPages, api.ErrSize},
		{func(n int) string { return steps("@t", n) }, api.MaxSteps, api.ErrSize},
		{func(n int) string {
			return within(2, "section @a max 1 { "+several(n, "line a# : flag = true ;")+" }")
		}, api.MaxItems, api.ErrSize},
		{func(n int) string { return "section @s max " + strconv.Itoa(n) + " { }" }, api.MaxRows, api.ErrSize},
		{func(n int) string {
			return several(60, "field a# : flag ;") + " " + several(5, "section s# max 1 { }") + " page @p { " + list(60, "a#", " , ") + " , " + list(n-60, "s#", " , ") + " }"
		}, api.MaxItems, api.ErrSize},
		{func(n int) string {
			return "line @a : amount 0 up = " + strings.Repeat("- ", n-1) + "1 ;"
		}, api.MaxNodes, api.ErrNodes},
		{func(n int) string { return "field @a : amount " + strconv.Itoa(n) + " ;" }, api.MaxScale, api.ErrKind},
		{func(n int) string { return "line @a : amount " + strconv.Itoa(n) + " up = 1 ;" }, api.MaxScale, api.ErrKind},
		{func(n int) string { return "line @a : amount 0 up = round ( 1 , " + strconv.Itoa(n) + " , up ) ;" }, api.MaxScale, api.ErrScale},
		{func(n int) string { return "field @" + strings.Repeat("a", n) + " : flag ;" }, api.MaxName, api.ErrWord},
		{func(n int) string { return "line a : text = @\"" + strings.Repeat("a", n) + "\" ;" }, api.MaxText, api.ErrWord},
	}
}

// P12.1, P12.2: at each limit a definition is accepted, one beyond it it is not.
func TestLimits(t *testing.T) {
	for _, x := range limits() {
		words, _ := marked("return r { " + x.text(x.most) + " }")
		text := strings.Join(words, " ")
		hold(t, made(t, text), parsed(t, text))
		wantRefusedAt(t, wholeText(x.text(x.most+1)), x.e)
	}
	text := "return r { " + several(api.MaxItems, "line a# : flag = true ;") + " }"
	hold(t, made(t, text), parsed(t, text))
}

// P12.2 and the bound: as many items as there is room for, each of which reads others; a schema of it is there soon.
func TestManyItems(t *testing.T) {
	text := "return r { field a : flag ; " + several(62, "check b# = a ;") + " " +
		several(15, "section s# max 1 { "+several(60, "check c# = a ;")+" }") + " }"
	began := time.Now()
	s := made(t, text)
	if took := time.Since(began); took > 2*time.Second {
		t.Error("it took", took)
	}
	if s.Items() != 63+15*60 || len(s.Users(0)) != s.Items()-1 {
		t.Error(s.Items(), len(s.Users(0)))
	}
	hold(t, s, parsed(t, text))
}

// P12.2: ranks as high as there is room for, against the order in which the lines stand.
func TestLongChain(t *testing.T) {
	text := "return r { " + several(api.MaxItems-1, "line a# : flag = b# ;") + " }"
	for n := range api.MaxItems - 1 {
		text = strings.Replace(text, "b"+strconv.Itoa(n)+" ", "a"+strconv.Itoa(n+1)+" ", 1)
	}
	text = strings.Replace(text, " }", " line a"+strconv.Itoa(api.MaxItems-1)+" : flag = true ; }", 1)
	s := made(t, text)
	hold(t, s, parsed(t, text))
	for n := range api.MaxItems {
		if s.Rank(n) != api.MaxItems-1-n || s.Order()[n] != api.MaxItems-1-n {
			t.Error(n, s.Rank(n), s.Order()[n])
		}
	}
	wantRefused(t, strings.Replace(text, "flag = true", "flag = a3", 1), strings.Index(text, "a0"), api.ErrCycle)
}
