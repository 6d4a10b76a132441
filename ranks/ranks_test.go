package ranks

import (
	"math"
	"reflect"
	"slices"
	"strconv"
	"strings"
	"testing"

	"excise/api"
	"excise/grammar"
	"excise/scope"
)

// flat is the list of a definition's text.
func flat(t *testing.T, text string) []api.Sect {
	t.Helper()
	d, at, e := grammar.Parse(text)
	if e != api.OK {
		t.Fatalf("%q: %d at %d", text, e, at)
	}
	return scope.Flat(d)
}

func field(name string) api.Item { return api.Item{Name: name, Kind: api.ItField} }

func line(name string, x api.Expr) api.Item { return api.Item{Name: name, Kind: api.ItLine, Expr: x} }

func check(name string, x api.Expr) api.Item {
	return api.Item{Name: name, Kind: api.ItCheck, Expr: x}
}

func name(s string) api.Expr { return api.Expr{Kind: api.ExName, Name: s} }

func column(op int, section, name string) api.Expr {
	return api.Expr{Kind: api.ExAgg, Op: op, Section: section, Name: name}
}

func plus(args ...api.Expr) api.Expr {
	return api.Expr{Kind: api.ExOp, Op: api.OpAdd, Args: args}
}

func root(items ...api.Item) []api.Sect { return []api.Sect{{Parent: -1, Depth: 1, Items: items}} }

// chart is a list by a short text: sections with a slash between them, each its parent, its name and its items. An item a is a field, a:b,s.c a line that reads b and the column c of s, a!b a check.
func chart(text string) []api.Sect {
	var l []api.Sect
	for part := range strings.SplitSeq(text, "/") {
		words := strings.Fields(part)
		parent, err := strconv.Atoi(words[0])
		if err != nil {
			panic(text)
		}
		s := api.Sect{Parent: parent, Depth: 1, Name: words[1]}
		if parent >= 0 && parent < len(l) {
			s.Depth = l[parent].Depth + 1
		}
		for _, word := range words[2:] {
			s.Items = append(s.Items, charted(word))
		}
		l = append(l, s)
	}
	return l
}

func charted(word string) api.Item {
	at := strings.IndexAny(word, ":!")
	if at < 0 {
		return field(word)
	}
	var args []api.Expr
	for read := range strings.SplitSeq(word[at+1:], ",") {
		if section, item, ok := strings.Cut(read, "."); ok {
			args = append(args, column(api.AgSum, section, item))
		} else {
			args = append(args, name(read))
		}
	}
	if word[at] == '!' {
		return check(word[:at], plus(args...))
	}
	return line(word[:at], plus(args...))
}

// numbers are the numbers that a text says.
func numbers(text string) []int {
	var l []int
	for _, word := range strings.Fields(text) {
		n, err := strconv.Atoi(word)
		if err != nil {
			panic(text)
		}
		l = append(l, n)
	}
	return l
}

func wantReads(t *testing.T, l []api.Sect, n int, want ...int) {
	t.Helper()
	if got := Reads(l, n); !slices.Equal(got, want) {
		t.Errorf("Reads(.., %d) is %d, not %d, of %+v", n, got, want, l)
	}
}

func wantUsers(t *testing.T, l []api.Sect, n int, want ...int) {
	t.Helper()
	if got := Users(l, n); !slices.Equal(got, want) {
		t.Errorf("Users(.., %d) is %d, not %d, of %+v", n, got, want, l)
	}
}

func wantNumber(t *testing.T, l []api.Sect, section, item, want int, found bool) {
	t.Helper()
	if n, ok := Number(l, section, item); n != want || ok != found {
		t.Errorf("Number(.., %d, %d) is %d, %t, not %d, %t", section, item, n, ok, want, found)
	}
}

func wantOf(t *testing.T, l []api.Sect, n, section, item int, found bool) {
	t.Helper()
	if s, i, ok := Of(l, n); s != section || i != item || ok != found {
		t.Errorf("Of(.., %d) is %d, %d, %t, not %d, %d, %t", n, s, i, ok, section, item, found)
	}
}

// Numbers that no list of a test has.
var farOff = []int{-1, -2, math.MinInt, math.MinInt + 1, 1 << 20, 1 << 32, math.MaxInt - 1, math.MaxInt}

// many are sections with so many items, one within the other.
func many(counts ...int) []api.Sect {
	var l []api.Sect
	for n, count := range counts {
		l = append(l, api.Sect{Parent: n - 1, Depth: n + 1, Items: make([]api.Item, count)})
	}
	return l
}

// P11.1: numbers go on from section to section, there and back; beyond a section's last item there is none of it, also where there is another section's.
func TestNumber(t *testing.T) {
	for _, counts := range [][]int{{1}, {3}, {2, 2}, {3, 1, 4}, {0, 2}, {2, 0, 0, 3, 0}, {0, 0, 1}, {1, 1, 1, 1}, {64, 64, 64, 1}, {0}, {0, 0, 0}, {}} {
		l := many(counts...)
		number := 0
		for section, count := range counts {
			for item := range count {
				wantNumber(t, l, section, item, number, true)
				wantOf(t, l, number, section, item, true)
				number++
			}
			wantNumber(t, l, section, count, 0, false)
			wantNumber(t, l, section, count+1, 0, false)
			for _, item := range farOff {
				wantNumber(t, l, section, item, 0, false)
			}
		}
		for _, section := range append(farOff, len(counts), len(counts)+1) {
			wantNumber(t, l, section, 0, 0, false)
			wantNumber(t, l, section, -1, 0, false)
			wantNumber(t, l, section, 1, 0, false)
		}
		for _, n := range append(farOff, number, number+1) {
			wantOf(t, l, n, 0, 0, false)
		}
	}
}

// P11.1: no sections at all, and the definition of a text.
func TestNumberOrdinary(t *testing.T) {
	for _, none := range [][]api.Sect{nil, {}} {
		wantNumber(t, none, 0, 0, 0, false)
		wantOf(t, none, 0, 0, 0, false)
	}
	l := flat(t, `return r { field a : flag ; section s max 1 { field b : flag ; line c : flag = b ; section u max 1 { check d = b ; } }
		line e : flag = a ; section v max 1 { field f : flag ; } check g = a ; }`)
	where := map[string][2]int{"a": {0, 0}, "e": {0, 1}, "g": {0, 2}, "b": {1, 0}, "c": {1, 1}, "d": {2, 0}, "f": {3, 0}}
	for n, item := range strings.Fields("a e g b c d f") {
		at := where[item]
		wantNumber(t, l, at[0], at[1], n, true)
		wantOf(t, l, n, at[0], at[1], true)
		if l[at[0]].Items[at[1]].Name != item {
			t.Errorf("%s is not at %d", item, at)
		}
	}
}

// P11.2: the chapter's example and a return of sections within one another: names that mean an item around, aggregates, checks, what stands behind.
func TestReadsOrdinary(t *testing.T) {
	l := root(field("a"), line("b", plus(name("a"), name("c"))), line("c", name("a")))
	wantReads(t, l, 0)
	wantReads(t, l, 1, 0, 2)
	wantReads(t, l, 2, 0)
	wantUsers(t, l, 0, 1, 2)
	wantUsers(t, l, 1)
	wantUsers(t, l, 2, 1)

	l = flat(t, `return r { field a : amount 2 ; line all : amount 2 up = sum ( s . t ) + a ; check ok = all > rows ( s ) and count ( s . p ) = 0 ;
		section s max 9 { field p : amount 2 ; line t : amount 2 up = p * a + max ( u . q ) ; check fine = not blank ( p ) and T ( t ) > all2 ;
			section u max 9 { field q : amount 2 ; line w : amount 2 up = if ( q > p , a , round ( all2 , 2 , down ) ) ; } }
		line all2 : amount 2 up = a ; table T { from 0 base 0 rate 0 ; } }`)
	reads := []string{"", "0 5", "1 4", "0", "", "0 4 7", "3 4 5", "", "0 3 4 7"}
	users := []string{"1 3 5 8", "2", "", "6 8", "2 5 6 8", "1 6", "", "5 8", ""}
	for n := range reads {
		wantReads(t, l, n, numbers(reads[n])...)
		wantUsers(t, l, n, numbers(users[n])...)
	}
}

// P11.2: what an item of each kind reads, its Expr being there in any case; of an ItField nothing.
func TestReadsKinds(t *testing.T) {
	for _, kind := range []int{math.MinInt, -1, 0, api.ItField, api.ItLine, api.ItCheck, 4, 5, math.MaxInt} {
		l := root(field("a"), api.Item{Name: "b", Kind: kind, Expr: plus(name("a"), name("c"))}, line("c", name("b")))
		readable := kind == api.ItField || kind == api.ItLine
		if kind == api.ItField {
			wantReads(t, l, 1)
			wantUsers(t, l, 0)
		} else {
			wantReads(t, l, 1, 0, 2)
			wantUsers(t, l, 0, 1)
			wantUsers(t, l, 2, 1)
		}
		if readable {
			wantReads(t, l, 2, 1)
			wantUsers(t, l, 1, 2)
		} else {
			wantReads(t, l, 2)
			wantUsers(t, l, 1)
		}
	}
}

// P11.2: nodes of every Kind: only an ExName reads its Name, and only an ExAgg, but of AgRows, its column; Args are gone through of all of them.
func TestReadsNodes(t *testing.T) {
	for _, kind := range []int{math.MinInt, -1, 0, 1, 2, 3, 4, 5, 6, 7, 8, 9, 10, 11, 12, math.MaxInt} {
		for _, op := range []int{math.MinInt, -1, 0, 1, 11, 12, 13, 14, 15, 16, 17, math.MaxInt} {
			x := api.Expr{Kind: kind, Op: op, Name: "a", Section: "s", Value: api.Value{Kind: api.VText, Text: "b"}}
			var want []int
			switch {
			case kind == api.ExName:
				want = []int{0}
			case kind == api.ExAgg && op != api.AgRows:
				want = []int{4}
			}
			l := []api.Sect{{Parent: -1, Items: []api.Item{field("a"), field("b"), line("c", x), field("d")}}, {Parent: 0, Name: "s", Items: []api.Item{field("a"), field("b")}}}
			wantReads(t, l, 2, want...)
			x.Args = []api.Expr{name("d"), {Kind: kind, Op: op, Name: "b", Section: "s", Args: []api.Expr{name("c")}}}
			l[0].Items[2].Expr = x
			switch {
			case kind == api.ExName:
				want = []int{0, 1}
			case kind == api.ExAgg && op != api.AgRows:
				want = []int{4, 5}
			}
			want = append(want, 2, 3)
			slices.Sort(want)
			wantReads(t, l, 2, want...)
			for n := range 6 {
				if slices.Contains(want, n) {
					wantUsers(t, l, n, 2)
				} else {
					wantUsers(t, l, n)
				}
			}
		}
	}
}

// P11.2: a name that stands there more often counts once, however deep it stands, and whatever order the names stand in.
func TestReadsOnce(t *testing.T) {
	for text, want := range map[string]string{
		"-1 r a b:a": "0", "-1 r a b:a,a": "0", "-1 r a b c d:c,a,b,c,c,a": "0 1 2", "-1 r a b c d:c,b,a": "0 1 2", "-1 r a b c d:b,c": "1 2", "-1 r a b c d:d,a,d": "0 3",
	} {
		l := chart(text)
		wantReads(t, l, len(l[0].Items)-1, numbers(want)...)
	}
	x := name("a")
	for levels := range 70 {
		l := root(field("b"), field("a"), line("c", x))
		want := []int{0, 1}
		if levels == 0 {
			want = []int{1}
		}
		wantReads(t, l, 2, want...)
		wantUsers(t, l, 1, 2)
		x = api.Expr{Kind: 1 + levels%10, Args: []api.Expr{{Kind: api.ExConst}, x, name("b")}}
	}
}

// P11.2: what names mean: an item of the section itself, else of the nearest around it; the first of its name; an item behind, the item itself; no check, no item within or beside, nothing.
func TestReadsMeaning(t *testing.T) {
	l := chart(`-1 r a b:a,b,c c:d,x,y d!a e:d,s,r,zz
		/ 0 s x a:a,x,b y:a,c,d
			/ 1 u z:a,b,x,y,z,v a:a
		/ 0 v q x:a,x,q,z v:v,s,u`)
	for n, want := range []string{"", "0 1 2", "", "0", "", "", "1 5 6", "2 6", "1 5 7 8 9", "9", "", "0 10 11", "12"} {
		wantReads(t, l, n, numbers(want)...)
	}
	for n, want := range []string{"1 3 11", "1 6 8", "1 7", "", "", "6 8", "6 7", "8", "8", "8 9", "11", "11", "12"} {
		wantUsers(t, l, n, numbers(want)...)
	}
	odd := func(kind int) api.Item { return api.Item{Name: "a", Kind: kind, Expr: name("b")} }
	l = []api.Sect{
		{Parent: -1, Items: []api.Item{odd(api.ItCheck), odd(0), odd(4), odd(-1), odd(api.ItLine), odd(api.ItField), line("c", name("a")), field("b")}},
		{Parent: 0, Items: []api.Item{odd(api.ItCheck), field("b"), line("b", name("a")), field("b")}},
		{Parent: 1, Items: []api.Item{line("d", plus(name("a"), name("b"))), odd(api.ItField), odd(api.ItLine)}},
		{Parent: 0, Items: []api.Item{line("e", plus(name("a"), name("b"), name(""))), field(""), field("")}},
	}
	for n, want := range []string{"7", "7", "7", "7", "7", "", "4", "", "9", "", "4", "", "9 13", "", "9", "4 7 16", "", ""} {
		wantReads(t, l, n, numbers(want)...)
	}
}

// P11.2: aggregates over a kid's field and line, not its check, nor what is around or within it; the first item of a name, of the first kid of a name; over what is no kid nothing.
func TestReadsColumns(t *testing.T) {
	l := chart(`-1 r a p:s.a,s.b q:s.c,s.d,s.x r:u.x,r.a,s.s,w.a,zz.a,s. t:s.a,a,s.a
		/ 0 s a b:a c!a b a c
			/ 1 u x y:s.a,u.x,a z:w.k
				/ 2 w k k:z,u.x
			/ 1 s d e:s.d,u.y,s.a
		/ 0 s d x
		/ 5 s a`)
	for n, want := range []string{"", "5 6", "10", "", "0 5", "", "5", "5", "", "", "", "", "5", "14", "", "13", "", "", "", "", ""} {
		wantReads(t, l, n, numbers(want)...)
	}
	wantUsers(t, l, 5, 1, 4, 6, 7, 12)
	wantUsers(t, l, 10, 2)
	wantUsers(t, l, 18)
	for op := api.AgSum; op <= api.AgRows; op++ {
		for _, item := range []string{"a", "", "b", "zz"} {
			l := []api.Sect{{Parent: -1, Items: []api.Item{line("x", column(op, "s", item)), field("a")}}, {Parent: 0, Name: "s", Items: []api.Item{field("b"), field("")}}}
			want := map[string][]int{"b": {2}, "": {3}}[item]
			if op == api.AgRows {
				want = nil
			}
			wantReads(t, l, 0, want...)
		}
	}
}

// P11.2: within a section the section itself is no kid, and a kid's kid is none.
func TestReadsColumnsWhere(t *testing.T) {
	l := chart("-1 r a:u.c,s.b / 0 s b:s.b,u.c,r.a / 1 u c:u.c,s.b")
	for n, want := range []string{"1", "2", ""} {
		wantReads(t, l, n, numbers(want)...)
	}
}

// P11.2: those that nobody reads, one reads twice, many read, also from within other sections; rising.
func TestUsers(t *testing.T) {
	l := chart("-1 r f:a a b:a,a,a c!a,b d:s.x,s.x e:b / 0 s x:a,b y!a,x,x / 1 u z:a,d w:x / 0 v k:a,b,z")
	for n, want := range []string{"", "0 2 3 6 7 8 10", "3 5 6 10", "", "8", "", "4 7 9", "", "", "", ""} {
		wantUsers(t, l, n, numbers(want)...)
	}
}

// R4, P11.2, P11.3: of lists without items there is nothing, and of numbers that no item has.
func TestNothing(t *testing.T) {
	for _, l := range [][]api.Sect{nil, {}, many(0), many(0, 0, 0), {{Parent: 5}, {Parent: 1}, {Items: []api.Item{}}}, chart("-1 r a b:a"), chart("-1 r a:a / 0 s b:a")} {
		_, after := items(l)
		for _, n := range append(farOff, after, after+1) {
			wantReads(t, l, n)
			wantUsers(t, l, n)
			wantBelow(t, l, n)
		}
		if after > 0 {
			continue
		}
		if r, e := Ranks(l); len(r) != 0 || e != api.OK {
			t.Errorf("Ranks of no items is %d, %d", r, e)
		}
		if o, e := Order(l); len(o) != 0 || e != api.OK {
			t.Errorf("Order of no items is %d, %d", o, e)
		}
		if s := Stuck(l); len(s) != 0 {
			t.Errorf("Stuck of no items is %d", s)
		}
	}
}

// items are all items of a list by their numbers, and how many they are.
func items(l []api.Sect) ([]api.Item, int) {
	var all []api.Item
	for _, s := range l {
		all = append(all, s.Items...)
	}
	return all, len(all)
}

// copied is a list in memory of its own.
func copied(l []api.Sect) []api.Sect {
	var copyExpr func(x api.Expr) api.Expr
	copyExpr = func(x api.Expr) api.Expr {
		x.Args = slices.Clone(x.Args)
		for i := range x.Args {
			x.Args[i] = copyExpr(x.Args[i])
		}
		return x
	}
	made := slices.Clone(l)
	for n := range made {
		made[n].Items = slices.Clone(made[n].Items)
		for i := range made[n].Items {
			made[n].Items[i].Expr = copyExpr(made[n].Items[i].Expr)
		}
	}
	return made
}

// R3, R6: what is handed in is left as it was, and what is answered is told anew each time, whatever its owner does with it.
func TestOwners(t *testing.T) {
	for _, text := range []string{
		"-1 r a b:a,c c:a / 0 s x:b,c y:x,a / 1 u k:b,x,a / 0 v l:k,a",
		"-1 r a b:a,d,c c:b d:b,a / 0 s x:b,a y:x,b,s.x / 2 u k:k,a,u.k",
	} {
		l := chart(text)
		before := copied(l)
		_, count := items(l)
		ask := func() [][]int {
			ranks, _ := Ranks(l)
			order, _ := Order(l)
			all := [][]int{ranks, order, Stuck(l)}
			for n := range count {
				all = append(all, Reads(l, n), Users(l, n), Below(l, n))
			}
			return all
		}
		first, second := ask(), ask()
		for _, answer := range first {
			whole := answer[:cap(answer)]
			for i := range whole {
				whole[i] = -7
			}
		}
		for i, answer := range ask() {
			if !slices.Equal(answer, second[i]) {
				t.Errorf("%s: the answer %d is %d, and was %d", text, i, answer, second[i])
			}
		}
		if !reflect.DeepEqual(l, before) {
			t.Errorf("%s: what is handed in is changed", text)
		}
	}
}
