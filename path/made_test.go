package path_test

import (
	"math"
	"math/rand/v2"
	"slices"
	"strconv"
	"strings"
	"testing"

	"excise/api"
	"excise/path"
	"excise/scope"
)

// What the chapter's words say, slowly and plainly.

func saysList(l []api.Sect) bool {
	for n, s := range l {
		up := 0
		if n == 0 && s.Parent != -1 || n > 0 && (s.Parent < 0 || s.Parent >= n) {
			return false
		}
		if n > 0 {
			up = l[s.Parent].Depth
		}
		if s.Depth < 1 || s.Depth > api.MaxDepth || s.Depth-1 != up {
			return false
		}
	}
	return true
}

func saysRow(l []api.Sect, r api.Row) bool {
	if !saysList(l) || r.Section < 0 || r.Section > len(l)-1 {
		return false
	}
	used := r.Ids[:l[r.Section].Depth-1]
	for _, id := range used {
		if id < 1 || id > 1<<53 {
			return false
		}
	}
	return !slices.ContainsFunc(r.Ids[len(used):], func(id int64) bool { return id != 0 })
}

// saysChain are the rows around a row, and it, from without.
func saysChain(l []api.Sect, r api.Row) []api.Row {
	var sections []int
	for s := r.Section; s != -1; s = l[s].Parent {
		sections = append([]int{s}, sections...)
	}
	var out []api.Row
	for n, s := range sections {
		out = append(out, row(s, r.Ids[:n]...))
	}
	return out
}

func saysText(l []api.Sect, r api.Row) string {
	if !saysRow(l, r) {
		return "?"
	}
	var b strings.Builder
	for n, x := range saysChain(l, r)[1:] {
		b.WriteString("/" + l[x.Section].Name + ":" + strconv.FormatInt(r.Ids[n], 10))
	}
	if b.Len() == 0 {
		return "/"
	}
	return b.String()
}

func saysCellText(l []api.Sect, c api.Cell) string {
	if !saysRow(l, c.Row) || c.Item < 0 || c.Item >= len(l[c.Row.Section].Items) {
		return "?"
	}
	return saysText(l, c.Row) + "." + l[c.Row.Section].Items[c.Item].Name
}

// saysAsked are all rows that can have a text that is a text, or a beginning of it, by sections: each id that may stand in it is tried at each place.
func saysAsked(l []api.Sect, s string) []api.Row {
	var ids []int64
	for a := range s {
		for b := a + 1; b <= len(s) && b <= a+16; b++ {
			if id, err := strconv.ParseInt(s[a:b], 10, 64); err == nil && id > 0 && !slices.Contains(ids, id) {
				ids = append(ids, id)
			}
		}
	}
	var out []api.Row
	for n := range l {
		rows := []api.Row{row(n)}
		for place := range l[n].Depth - 1 {
			var more []api.Row
			for _, r := range rows {
				for _, id := range ids {
					r.Ids[place] = id
					more = append(more, r)
				}
			}
			rows = more
		}
		out = append(out, rows...)
	}
	return out
}

func saysParse(l []api.Sect, s string) (api.Row, bool) {
	if !saysList(l) {
		return api.Row{}, false
	}
	for _, r := range saysAsked(l, s) {
		if saysRow(l, r) && saysText(l, r) == s {
			return r, true
		}
	}
	return api.Row{}, false
}

func saysParseCell(l []api.Sect, s string) (api.Cell, bool) {
	if !saysList(l) {
		return api.Cell{}, false
	}
	best, found := api.Cell{}, false
	for _, r := range saysAsked(l, s) {
		for n := range l[r.Section].Items {
			c := api.Cell{Row: r, Item: n}
			if saysCellText(l, c) != s {
				continue
			}
			if !found || r.Section < best.Row.Section || r.Section == best.Row.Section && n < best.Item {
				best, found = c, true
			}
		}
	}
	return best, found
}

// holdRow holds every call of one row against the words.
func holdRow(t *testing.T, l []api.Sect, r api.Row) bool {
	t.Helper()
	good := saysRow(l, r)
	if e := path.Check(l, r); (e == api.OK) != good || !good && e != api.ErrPath {
		t.Fatalf("Check of %v in %v: %v", r, l, e)
	}
	if s, want := path.Text(l, r), saysText(l, r); s != want {
		t.Fatalf("Text of %v in %v: %q, not %q", r, l, s, want)
	}
	items := 0
	if r.Section >= 0 && r.Section < len(l) {
		items = len(l[r.Section].Items)
	}
	for _, n := range []int{math.MinInt, -1, 0, 1, items - 1, items, math.MaxInt} {
		c := api.Cell{Row: r, Item: n}
		want := saysCellText(l, c)
		if s, e := path.CellText(l, c), path.CheckCell(l, c); s != want || (e == api.OK) != (good && n >= 0 && n < items) || e != api.OK && e != api.ErrPath {
			t.Fatalf("the cell %v in %v: %q %v, not %q", c, l, s, e, want)
		}
	}
	holdAround(t, l, r, good)
	return good
}

func holdAround(t *testing.T, l []api.Sect, r api.Row, good bool) {
	t.Helper()
	chain := []api.Row{r}
	if good {
		chain = saysChain(l, r)
	}
	for section := -1; section <= len(l); section++ {
		at := slices.IndexFunc(chain, func(x api.Row) bool { return x.Section == section })
		want := api.Row{}
		if at >= 0 {
			want = chain[at]
		}
		if a, ok := path.Around(l, r, section); a != want || ok != (at >= 0) {
			t.Fatalf("Around of %v, %d in %v: %v %v", r, section, l, a, ok)
		}
	}
	p, ok := path.Parent(l, r)
	id := path.Id(l, r)
	if !good || r.Section == 0 {
		if ok || p != (api.Row{}) || id != 0 {
			t.Fatalf("Parent and Id of %v in %v: %v %v %d", r, l, p, ok, id)
		}
		return
	}
	if want := chain[len(chain)-2]; !ok || p != want || id != r.Ids[len(chain)-2] {
		t.Fatalf("Parent and Id of %v in %v: %v %v %d", r, l, p, ok, id)
	}
}

func holdKid(t *testing.T, l []api.Sect, r api.Row, section int, id int64) {
	t.Helper()
	want, err := api.Row{}, api.ErrPath
	if saysRow(l, r) && section >= 0 && section < len(l) && l[section].Parent == r.Section && id >= 1 && id <= 1<<53 {
		err = api.OK
		want = row(section, append(slices.Clone(r.Ids[:l[r.Section].Depth-1]), id)...)
	}
	if k, e := path.Kid(l, r, section, id); k != want || e != err {
		t.Fatalf("Kid of %v, %d, %d in %v: %v %v", r, section, id, l, k, e)
	}
}

func holdWithin(t *testing.T, l []api.Sect, r, outer api.Row) bool {
	t.Helper()
	want := saysRow(l, r) && saysRow(l, outer) && slices.Contains(saysChain(l, r), outer)
	if got := path.Within(l, r, outer); got != want {
		t.Fatalf("Within of %v, %v in %v: %v", r, outer, l, got)
	}
	return want
}

func holdText(t *testing.T, l []api.Sect, s string) (bool, bool) {
	t.Helper()
	r, row := saysParse(l, s)
	if got, ok := path.Parse(l, s); got != r || ok != row {
		t.Fatalf("Parse of %q in %v: %v %v, not %v %v", s, l, got, ok, r, row)
	}
	c, cell := saysParseCell(l, s)
	if got, ok := path.ParseCell(l, s); got != c || ok != cell {
		t.Fatalf("ParseCell of %q in %v: %v %v, not %v %v", s, l, got, ok, c, cell)
	}
	return row, cell
}

// madeList is a list of sections, raw in its names; now and then it is not sound.
func madeList(x *rand.Rand, names []string) []api.Sect {
	l := []api.Sect{{Parent: -1, Depth: 1, Items: madeItems(x, names)}}
	for range x.IntN(8) {
		p := x.IntN(len(l))
		if l[p].Depth < api.MaxDepth {
			l = append(l, api.Sect{Parent: p, Depth: l[p].Depth + 1, Name: names[x.IntN(len(names))], Items: madeItems(x, names)})
		}
	}
	if s := &l[x.IntN(len(l))]; x.IntN(12) == 0 {
		s.Parent += x.IntN(3) - 1
		s.Depth += x.IntN(3) - 1
	}
	return l
}

func madeItems(x *rand.Rand, names []string) []api.Item {
	var l []string
	for range x.IntN(4) {
		l = append(l, names[x.IntN(len(names))])
	}
	return items(l...)
}

func madeId(x *rand.Rand) int64 {
	edges := []int64{math.MinInt64, -1, 0, 1, api.MaxId - 1, api.MaxId, api.MaxId + 1, math.MaxInt64}
	switch x.IntN(12) {
	case 0:
		return edges[x.IntN(len(edges))]
	case 1:
		return 1 + x.Int64N(api.MaxId)
	}
	return 1 + x.Int64N(3)
}

// madeRow is a row that mostly may be.
func madeRow(x *rand.Rand, l []api.Sect) api.Row {
	r := row(x.IntN(len(l)))
	if x.IntN(20) == 0 {
		r.Section = x.IntN(len(l)+2) - 1
	}
	used := 0
	if r.Section >= 0 && r.Section < len(l) {
		used = l[r.Section].Depth - 1
	}
	for n := range r.Ids {
		if n < used {
			r.Ids[n] = madeId(x)
		} else if x.IntN(20) == 0 {
			r.Ids[n] = madeId(x)
		}
	}
	return r
}

// Rows of made-up lists, each call against the chapter's words.
func TestMadeRows(t *testing.T) {
	x := rand.New(rand.NewPCG(15, 1))
	var good, bad, unsound, within int
	for range 20000 {
		l := madeList(x, []string{"a", "b", "c", "d", "e"})
		if !saysList(l) {
			unsound++
		}
		r, outer := madeRow(x, l), madeRow(x, l)
		for _, y := range []api.Row{r, outer} {
			if holdRow(t, l, y) {
				good++
			} else {
				bad++
			}
		}
		for section := -1; section <= len(l); section++ {
			holdKid(t, l, r, section, madeId(x))
		}
		if holdWithin(t, l, r, outer) && r != outer && outer.Section != 0 {
			within++
		}
	}
	if good < 20000 || bad < 5000 || unsound < 500 || within < 100 {
		t.Error("too few of a kind:", good, bad, unsound, within)
	}
}

// Texts of made-up rows and cells, and what is near them: among them names with the bytes that texts are made of, and names of several.
func TestMadeTexts(t *testing.T) {
	x := rand.New(rand.NewPCG(15, 2))
	names := []string{"a", "b", "ab", "", "a:1/b", "a/b", "1", ".", ":", "/", "b.a", "1/b", ":1", ":2"}
	var rows, cells, none, twice int
	for n := range 15000 {
		use := names
		if n%2 == 0 {
			use = names[:3]
		}
		l := madeList(x, use)
		s := madeText(x, l)
		row, cell := holdText(t, l, s)
		rows += b2i(row)
		cells += b2i(cell)
		none += b2i(!row && !cell)
		twice += b2i(row && cell)
	}
	if rows < 2000 || cells < 2000 || none < 2000 || twice < 1 {
		t.Error("too few of a kind:", rows, cells, none, twice)
	}
}

// madeText is the text of a row or a cell, every other time with a byte or two changed.
func madeText(x *rand.Rand, l []api.Sect) string {
	r := row(x.IntN(len(l)))
	for n := range max(0, min(3, l[r.Section].Depth-1)) {
		r.Ids[n] = 1 + x.Int64N(12)
	}
	s := path.Text(l, r)
	if m := len(l[r.Section].Items); m > 0 && x.IntN(2) == 0 {
		s = path.CellText(l, api.Cell{Row: r, Item: x.IntN(m)})
	}
	for range x.IntN(3) {
		const bytes = "/:.0123ab-+ "
		at, b := x.IntN(len(s)+1), bytes[x.IntN(len(bytes))]
		switch x.IntN(3) {
		case 0:
			s = s[:at] + string(b) + s[at:]
		case 1:
			s = s[:at] + s[min(len(s), at+1):]
		case 2:
			s = s[:at] + string(b) + s[min(len(s), at+1):]
		}
	}
	return s
}

// madeDef is a definition that scope.Check takes: no name stands twice around one place, but many stand twice elsewhere.
func madeDef(x *rand.Rand) api.Def {
	left := 1 + x.IntN(api.MaxSections)
	var build func(depth int, taken []string) api.Section
	build = func(depth int, taken []string) api.Section {
		left--
		var s api.Section
		pick := func() string {
			for {
				name := "n" + strconv.Itoa(x.IntN(60))
				if x.IntN(3) == 0 {
					name = strings.Repeat("z", 1+x.IntN(api.MaxName))
				}
				if !slices.Contains(taken, name) {
					taken = append(taken, name)
					return name
				}
			}
		}
		for n := range x.IntN(5) {
			kinds := []int{api.ItField, api.ItLine, api.ItCheck}
			i := api.Item{Name: pick(), Kind: kinds[n%3], Type: api.Type{Kind: api.VFlag}}
			if i.Kind != api.ItField {
				i.Expr = api.Expr{Kind: api.ExConst, Value: api.Value{Kind: api.VFlag}}
			}
			s.Items = append(s.Items, i)
		}
		if depth == api.MaxDepth {
			return s
		}
		var kids []string
		for left > 0 && x.IntN(5) > 0 {
			kids = append(kids, pick())
			s.Kids = append(s.Kids, api.Section{})
			left--
		}
		left += len(kids)
		mine := slices.DeleteFunc(slices.Clone(taken), func(n string) bool { return slices.Contains(kids, n) })
		for n, name := range kids {
			if left == 0 {
				s.Kids = s.Kids[:n]
				break
			}
			s.Kids[n] = build(depth+1, append(slices.Clone(mine), name))
			s.Kids[n].Name = name
			s.Kids[n].Max = 1 + x.IntN(api.MaxRows)
		}
		return s
	}
	return api.Def{Name: "r", Root: build(1, nil)}
}

// sure is a row that may be.
func sure(x *rand.Rand, l []api.Sect, section int) api.Row {
	r := row(section)
	for n := range l[section].Depth - 1 {
		r.Ids[n] = 1 + x.Int64N(2)
		if x.IntN(3) == 0 {
			r.Ids[n] = 1 + x.Int64N(api.MaxId)
		}
	}
	return r
}

// P15.4 to P15.6, and the words, over definitions that scope.Check takes.
func TestDefinitions(t *testing.T) {
	x := rand.New(rand.NewPCG(15, 3))
	var deepest, most, steps int
	for range 1500 {
		d := madeDef(x)
		if p, e := scope.Check(d); e != api.OK {
			t.Fatalf("%v is not taken: %v %v", d, p, e)
		}
		l := scope.Flat(d)
		most = max(most, len(l))
		for section := range l {
			deepest = max(deepest, l[section].Depth)
			r := sure(x, l, section)
			if !holdRow(t, l, r) {
				t.Fatalf("%v is refused in %v", r, l)
			}
			holdBack(t, l, r)
			holdKids(t, l, r)
			steps += holdThree(t, l, r, sure(x, l, x.IntN(len(l))), sure(x, l, x.IntN(len(l))))
		}
	}
	if deepest != api.MaxDepth || most != api.MaxSections || steps < 1000 {
		t.Error("too few of a kind:", deepest, most, steps)
	}
}

// holdBack holds P15.5.
func holdBack(t *testing.T, l []api.Sect, r api.Row) {
	t.Helper()
	if got, ok := path.Parse(l, path.Text(l, r)); !ok || got != r {
		t.Fatalf("Parse of Text of %v in %v: %v %v", r, l, got, ok)
	}
	for n := range l[r.Section].Items {
		c := api.Cell{Row: r, Item: n}
		if got, ok := path.ParseCell(l, path.CellText(l, c)); !ok || got != c {
			t.Fatalf("ParseCell of CellText of %v in %v: %v %v", c, l, got, ok)
		}
	}
}

// holdKids holds P15.4.
func holdKids(t *testing.T, l []api.Sect, r api.Row) {
	t.Helper()
	for _, section := range scope.Kids(l, r.Section) {
		for _, id := range []int64{1, 2, api.MaxId} {
			k, e := path.Kid(l, r, section, id)
			if p, ok := path.Parent(l, k); e != api.OK || !ok || p != r || path.Id(l, k) != id {
				t.Fatalf("Kid of %v in %v: %v %v, and back: %v %v", r, l, k, e, p, ok)
			}
		}
	}
	if p, ok := path.Parent(l, r); ok {
		if k, e := path.Kid(l, p, r.Section, path.Id(l, r)); e != api.OK || k != r {
			t.Fatalf("%v in %v is not the Kid of its Parent: %v %v", r, l, k, e)
		}
	} else if r.Section != 0 {
		t.Fatalf("%v in %v has no Parent", r, l)
	}
}

// holdThree holds P15.6, of all orders of three rows and of those around the first one; it tells how often there was a step to be made.
func holdThree(t *testing.T, l []api.Sect, rows ...api.Row) int {
	t.Helper()
	rows = append(rows, saysChain(l, rows[0])...)
	steps := 0
	for _, a := range rows {
		for _, b := range rows {
			if !holdWithin(t, l, a, b) {
				continue
			}
			for _, c := range rows {
				if path.Within(l, b, c) && !path.Within(l, a, c) {
					t.Fatalf("%v is within %v, that is within %v, in %v", a, b, c, l)
				}
				steps += b2i(a != b && b != c && path.Within(l, b, c))
			}
		}
	}
	return steps
}
