package store_test

import (
	"slices"
	"strings"
	"testing"

	"excise/api"
	"excise/schema"
	"excise/store"
)

// filled is peopled with values, and its Plain.
func filled(t *testing.T) (*store.Store, api.Inst) {
	t.Helper()
	x := peopled(t)
	set(t, x, root, 0, num(t, 150, 2))
	set(t, x, root, 4, text("x"))
	set(t, x, row(1, 2), 1, flag(false))
	set(t, x, row(2, 1, 3), 0, text(""))
	set(t, x, row(3, 1, 3, 6), 0, num(t, -6, 0))
	set(t, x, row(4, 7), 1, num(t, 7, 18))
	one := func(v api.Value) []api.Value { return []api.Value{v} }
	hours := []api.Inst{{Values: one(blank)}, {Values: one(num(t, -6, 0))}}
	days := []api.Inst{{Values: one(text("")), Kids: [][]api.Inst{hours}}, {Values: one(blank), Kids: [][]api.Inst{nil}}}
	jobs := []api.Inst{{Values: one(blank), Kids: [][]api.Inst{days}}, {Values: one(flag(false)), Kids: [][]api.Inst{{}}}}
	return x, api.Inst{
		Values: []api.Value{num(t, 150, 2), blank, text("x")},
		Kids:   [][]api.Inst{jobs, {{Values: one(num(t, 7, 18))}}},
	}
}

// is tells whether two are the same, by words alone.
func is(a, b api.Inst) bool {
	if len(a.Values) != len(b.Values) || len(a.Kids) != len(b.Kids) {
		return false
	}
	for n, v := range a.Values {
		if v != b.Values[n] {
			return false
		}
	}
	for n, list := range a.Kids {
		if len(list) != len(b.Kids[n]) {
			return false
		}
		for m := range list {
			if !is(list[m], b.Kids[n][m]) {
				return false
			}
		}
	}
	return true
}

func copied(i api.Inst) api.Inst {
	c := api.Inst{Values: slices.Clone(i.Values)}
	for _, list := range i.Kids {
		var kids []api.Inst
		for _, kid := range list {
			kids = append(kids, copied(kid))
		}
		c.Kids = append(c.Kids, kids)
	}
	return c
}

func TestPlain(t *testing.T) {
	x, want := filled(t)
	if got := x.Plain(); !is(got, want) {
		t.Errorf("Plain: %v, not %v", got, want)
	}
	x.Move(row(1, 1), 1)
	want.Kids[0][0], want.Kids[0][1] = want.Kids[0][1], want.Kids[0][0]
	if got := x.Plain(); !is(got, want) {
		t.Errorf("Plain: %v, not %v", got, want)
	}
	x.Clear(cell(root, 0))
	x.Delete(row(4, 7))
	want.Values[0], want.Kids[1] = blank, nil
	if got := x.Plain(); !is(got, want) {
		t.Errorf("Plain: %v, not %v", got, want)
	}
}

func TestFill(t *testing.T) {
	x, i := filled(t)
	y, e := store.Fill(x.Schema(), i)
	if e != api.OK || !is(y.Plain(), i) {
		t.Fatal("Fill", e)
	}
	// Ids in the order of All.
	want := []api.Row{root, row(1, 1), row(2, 1, 2), row(3, 1, 2, 3), row(3, 1, 2, 4), row(2, 1, 5), row(1, 6), row(4, 7)}
	if got := all(y); !slices.Equal(got, want) {
		t.Errorf("All: %v, not %v", got, want)
	}
	if y.Len() != 7 || y.Next() != 8 {
		t.Error("Len, Next", y.Len(), y.Next())
	}
	get(t, y, row(3, 1, 2, 4), 0, num(t, -6, 0))
	get(t, y, row(1, 6), 1, flag(false))
	get(t, y, root, 2, blank)
	if r := insert(t, y, root, 4, 0); r != row(4, 8) {
		t.Error("Insert", r)
	}
}

func TestFillUnmade(t *testing.T) {
	_, i := filled(t)
	for _, s := range []*schema.Schema{nil, {}} {
		for _, i := range []api.Inst{i, {}, {Values: make([]api.Value, 99)}} {
			if x, e := store.Fill(s, i); x != nil || e != api.ErrMade {
				t.Error("Fill of a schema that no call made", x, e)
			}
		}
	}
}

func noFill(t *testing.T, s *schema.Schema, i api.Inst, what string) {
	t.Helper()
	before := copied(i)
	if x, e := store.Fill(s, i); x != nil || e != api.ErrArg {
		t.Errorf("Fill of %s: %v %d", what, x, e)
	}
	if !is(before, i) {
		t.Errorf("Fill of %s wrote to it", what)
	}
}

// TestFillWrong spoils what could be filled in at each row by itself.
func TestFillWrong(t *testing.T) {
	x, good := filled(t)
	s := x.Schema()
	ways := []struct {
		what string
		do   func(i *api.Inst)
	}{
		{"too few values", func(i *api.Inst) { i.Values = i.Values[1:] }},
		{"no values", func(i *api.Inst) { i.Values = nil }},
		{"too many values", func(i *api.Inst) { i.Values = append(i.Values, blank) }},
		{"too many kids", func(i *api.Inst) { i.Kids = append(i.Kids, nil) }},
		{"an error", func(i *api.Inst) { i.Values[0] = api.Value{Kind: api.VErr, Err: api.EvNone} }},
		{"a blank with a text", func(i *api.Inst) { i.Values[0] = api.Value{Text: "x"} }},
		{"a blank with a scale", func(i *api.Inst) { i.Values[0].Kind, i.Values[0].Num.Scale = 0, 1 }},
		{"another scale", func(i *api.Inst) { i.Values[0] = num(t, 1, 7) }},
		{"a kind that is none", func(i *api.Inst) { i.Values[0] = api.Value{Kind: -1} }},
		{"a long text", func(i *api.Inst) { i.Values[len(i.Values)-1] = text(strings.Repeat("x", api.MaxText+1)) }},
		{"a value for a line, too", func(i *api.Inst) { i.Values = slices.Insert(i.Values, 1, blank) }},
	}
	places := []func(i *api.Inst) *api.Inst{
		func(i *api.Inst) *api.Inst { return i },
		func(i *api.Inst) *api.Inst { return &i.Kids[0][0] },
		func(i *api.Inst) *api.Inst { return &i.Kids[0][1] },
		func(i *api.Inst) *api.Inst { return &i.Kids[0][0].Kids[0][0] },
		func(i *api.Inst) *api.Inst { return &i.Kids[0][0].Kids[0][1] },
		func(i *api.Inst) *api.Inst { return &i.Kids[0][0].Kids[0][0].Kids[0][1] },
		func(i *api.Inst) *api.Inst { return &i.Kids[1][0] },
	}
	for n, place := range places {
		for _, way := range ways {
			i := copied(good)
			way.do(place(&i))
			noFill(t, s, i, way.what)
		}
		i := copied(good)
		if part := place(&i); len(part.Kids) > 0 {
			part.Kids = part.Kids[1:]
			noFill(t, s, i, "too few kids")
			part.Kids = nil
			noFill(t, s, i, "no kids")
		} else if n != 5 && n != 6 {
			t.Error("a row without kids", n)
		}
	}
	noFill(t, s, api.Inst{}, "nothing")
	bare := schemaOf(t, "return r { line a : amount 0 up = 1 ; }")
	noFill(t, bare, good, "another definition's")
	noFill(t, bare, api.Inst{Values: make([]api.Value, 1)}, "a line's value")
	if y, e := store.Fill(bare, api.Inst{Values: []api.Value{}, Kids: [][]api.Inst{}}); e != api.OK || y.Next() != 1 {
		t.Error("Fill of empty lists", e)
	}
}

func some(n int, i api.Inst) []api.Inst {
	list := make([]api.Inst, n)
	for m := range list {
		list[m] = copied(i)
	}
	return list
}

func TestFillMax(t *testing.T) {
	s := schemaOf(t, "return r { section k max 3 { section m max 1 { } } section l max 1024 { } }")
	leaf := api.Inst{}
	kid := func(n int) api.Inst { return api.Inst{Kids: [][]api.Inst{some(n, leaf)}} }
	for n, c := range []struct {
		i    api.Inst
		good bool
	}{
		{api.Inst{Kids: [][]api.Inst{nil, nil}}, true},
		{api.Inst{Kids: [][]api.Inst{{}, {}}}, true},
		{api.Inst{Kids: [][]api.Inst{some(3, kid(1)), some(1024, leaf)}}, true},
		{api.Inst{Kids: [][]api.Inst{some(4, kid(0)), nil}}, false},
		{api.Inst{Kids: [][]api.Inst{some(3, kid(2)), nil}}, false},
		{api.Inst{Kids: [][]api.Inst{append(some(2, kid(1)), kid(2)), nil}}, false},
		{api.Inst{Kids: [][]api.Inst{nil, some(1025, leaf)}}, false},
		{api.Inst{Kids: [][]api.Inst{nil, some(1, kid(0))}}, false},
		{api.Inst{Kids: [][]api.Inst{some(1, leaf), nil}}, false},
	} {
		if !c.good {
			noFill(t, s, c.i, "too much")
		} else if x, e := store.Fill(s, c.i); e != api.OK || !is(x.Plain(), c.i) {
			t.Error("Fill", n, e)
		}
	}
}

func TestFillMaxAll(t *testing.T) {
	s := schemaOf(t, crowd)
	leaf, full := api.Inst{}, some(api.MaxRows, api.Inst{})
	inst := func(c, d, e int) api.Inst {
		last := some(d, api.Inst{Kids: [][]api.Inst{nil}})
		last[d-1].Kids[0] = some(e, leaf)
		return api.Inst{Kids: [][]api.Inst{full, full, some(c, leaf), last}}
	}
	for _, c := range []struct{ c, d, e int }{{1023, 1, 1024}, {1024, 1024, 0}, {1024, 512, 512}, {0, 1024, 1024}} {
		i := inst(c.c, c.d, c.e)
		x, e := store.Fill(s, i)
		if e != api.OK || x.Len() != api.MaxAll || x.Next() != api.MaxAll+1 || !is(x.Plain(), i) {
			t.Error("Fill of as many as there may be", c, e)
		}
		for n, r := range all(x) {
			if n > 0 && max(r.Ids[0], r.Ids[1]) != int64(n) {
				t.Fatal("ids are not in the order of All", n, r)
			}
		}
	}
	for _, c := range []struct{ c, d, e int }{{1024, 1, 1024}, {1024, 1024, 1}, {1, 1024, 1024}, {1024, 1024, 1024}} {
		noFill(t, s, inst(c.c, c.d, c.e), "more than there may be")
	}
}

// TestFillOwn: neither does the return change with what was handed in, nor that with the return.
func TestFillOwn(t *testing.T) {
	x, i := filled(t)
	want := copied(i)
	y, e := store.Fill(x.Schema(), i)
	if e != api.OK || !is(i, want) {
		t.Fatal("Fill", e)
	}
	set(t, y, root, 0, num(t, 9, 2))
	y.Delete(row(1, 1))
	if !is(i, want) {
		t.Error("what was handed in has changed", i)
	}
	z, _ := store.Fill(x.Schema(), i)
	spoil(i)
	if !is(z.Plain(), want) {
		t.Error("the return has changed with what was handed in", z.Plain())
	}
}

// TestPlainOwn: no two lists that are told share memory.
func TestPlainOwn(t *testing.T) {
	x, want := filled(t)
	a, b := x.Plain(), x.Plain()
	spoil(a)
	if !is(b, want) || !is(x.Plain(), want) {
		t.Error("Plain shares memory", b, x.Plain())
	}
	b.Kids[0][0].Values[0] = flag(true)
	b.Kids[0] = append(b.Kids[0][:1], b.Kids[0][1:]...)
	_ = append(b.Kids[0], api.Inst{})
	_ = append(b.Kids[0][0].Values, flag(true))
	want.Kids[0][0].Values[0] = flag(true)
	if !is(b, want) {
		t.Error("two lists of one Plain share memory", b)
	}
}

func TestSame(t *testing.T) {
	_, i := filled(t)
	if !store.Same(i, copied(i)) || !store.Same(api.Inst{}, api.Inst{}) {
		t.Error("Same of the same")
	}
	for _, pair := range [][2]api.Inst{
		{{}, {Values: []api.Value{}, Kids: [][]api.Inst{}}},
		{{Kids: [][]api.Inst{nil, {}}}, {Kids: [][]api.Inst{{}, nil}}},
		{{Kids: [][]api.Inst{{{}}}}, {Kids: [][]api.Inst{{{Values: []api.Value{}, Kids: [][]api.Inst{}}}}}},
	} {
		if !store.Same(pair[0], pair[1]) || !store.Same(pair[1], pair[0]) {
			t.Error("Same of empty and nil lists", pair)
		}
	}
	others := []api.Inst{
		{}, {Values: []api.Value{{}}}, {Values: []api.Value{{}, {}}}, {Kids: [][]api.Inst{nil}}, {Kids: [][]api.Inst{nil, nil}}, {Kids: [][]api.Inst{{{}}}}, {Kids: [][]api.Inst{{{}, {}}}}, {Kids: [][]api.Inst{nil, {{}}}}, {Kids: [][]api.Inst{{{}}, nil}},
		{Values: []api.Value{flag(true)}}, {Values: []api.Value{flag(false)}}, {Values: []api.Value{text("")}}, {Values: []api.Value{text("x")}}, {Values: []api.Value{num(t, 1, 0)}}, {Values: []api.Value{num(t, 10, 1)}}, {Values: []api.Value{num(t, -1, 0)}}, {Values: []api.Value{{Err: 1}}}, {Values: []api.Value{flag(true), {}}}, {Values: []api.Value{{}, flag(true)}},
		{Kids: [][]api.Inst{{{Values: []api.Value{{}}}}}}, {Kids: [][]api.Inst{{{Values: []api.Value{flag(true)}}}}}, {Kids: [][]api.Inst{{{Kids: [][]api.Inst{nil}}}}}, {Kids: [][]api.Inst{{{Kids: [][]api.Inst{{{}}}}}}}, {Values: []api.Value{{}}, Kids: [][]api.Inst{nil}},
	}
	for n, a := range others {
		for m, b := range others {
			if store.Same(a, b) != (n == m) {
				t.Error("Same", a, b, n == m)
			}
		}
	}
}

// TestSameDeep: what no return has may be held against each other, too.
func TestSameDeep(t *testing.T) {
	deep := func(last api.Value) api.Inst {
		i := api.Inst{Values: []api.Value{last}}
		for range 1 << 16 {
			i = api.Inst{Kids: [][]api.Inst{nil, {i}}}
		}
		return i
	}
	if !store.Same(deep(blank), deep(blank)) || store.Same(deep(blank), deep(flag(true))) {
		t.Error("Same of what is deep")
	}
	s := schemaOf(t, tale)
	if x, e := store.Fill(s, deep(blank)); x != nil || e != api.ErrArg {
		t.Error("Fill of what is deep", e)
	}
}
