package rules_test

import (
	"maps"
	"math"
	"math/rand/v2"
	"slices"
	"strconv"
	"strings"
	"testing"

	"excise/api"
	"excise/model"
	"excise/rules"
	"excise/store"
)

// What the chapter's words say, plainly and slowly: each cell is looked at on its own.

// outer is the row around a row that is of a section around its own.
func (x ret) outer(r api.Row, section int) api.Row {
	r.Section = section
	for n := x.l[section].Depth - 1; n < len(r.Ids); n++ {
		r.Ids[n] = 0
	}
	return r
}

func (x ret) there(r api.Row) bool { return slices.Contains(slices.Collect(x.All()), r) }

func (x ret) saidSkipped(c api.Cell, names ...string) bool {
	if !x.there(c.Row) {
		return false
	}
	if c.Row == root {
		return c.Item >= 0 && c.Item < len(x.l[0].Items) && x.l[0].Items[c.Item].Kind == api.ItField && slices.Contains(names, x.l[0].Items[c.Item].Name)
	}
	section := c.Row.Section
	for x.l[section].Depth > 2 {
		section = x.l[section].Parent
	}
	return slices.Contains(names, x.l[section].Name)
}

func (x ret) saidAt(r api.Row) []int {
	if !x.there(r) {
		return nil
	}
	var at []int
	for r != root {
		around := x.outer(r, x.l[r.Section].Parent)
		at = append([]int{r.Section, slices.Index(x.Rows(around, r.Section), r)}, at...)
		r = around
	}
	return at
}

func (x ret) saidOf(c api.Cell, v api.Value, names ...string) (api.Fault, bool) {
	if !x.there(c.Row) || c.Item < 0 || c.Item >= len(x.l[c.Row.Section].Items) {
		return api.Fault{}, false
	}
	f := api.Fault{Cell: c, At: x.saidAt(c.Row)}
	item := x.l[c.Row.Section].Items[c.Item]
	switch {
	case item.Kind == api.ItField && item.Need && v.Kind == api.VBlank && !x.saidSkipped(c, names...):
		f.Kind = api.FtNeed
	case item.Kind != api.ItField && v.Kind == api.VErr:
		f.Kind, f.Err = api.FtError, v.Err
	case item.Kind == api.ItCheck && v.Kind == api.VBlank:
		f.Kind = api.FtBlank
	case item.Kind == api.ItCheck && v.Kind != api.VFlag:
		f.Kind, f.Err = api.FtError, api.EvType
	case item.Kind == api.ItCheck && !v.Flag:
		f.Kind = api.FtFalse
	default:
		return api.Fault{}, false
	}
	return f, true
}

// value is what Faults holds a cell for.
func (x ret) value(c api.Cell) api.Value {
	v, e := x.Get(c)
	if e != api.OK {
		v = x.lines[c]
	}
	return v
}

func (x ret) saidFaults(names ...string) []api.Fault {
	var l []api.Fault
	for _, c := range x.everyCell() {
		if f, ok := x.saidOf(c, x.value(c), names...); ok {
			l = append(l, f)
		}
	}
	return l
}

// A maker makes up definitions, returns of them, what lines say, and names.
type maker struct{ *rand.Rand }

func (m maker) pick(l ...int) int { return l[m.IntN(len(l))] }

func pickOf[T any](m maker, l []T) T { return l[m.IntN(len(l))] }

// name is one that nobody around has; sections beside one another often have items and kids of the same names.
func (m maker) name(around map[string]int) string {
	for {
		name := "n" + strconv.Itoa(m.IntN(len(around)+4))
		if around[name] == 0 {
			around[name] = 1
			return name
		}
	}
}

// definition is a text that is accepted. What lines reckon counts for nothing here, so that they read next to nothing.
func (m maker) definition() string {
	var b strings.Builder
	room := m.pick(0, 1, 2, 4, 6, 9, api.MaxSections-1)
	var write func(depth int, around map[string]int)
	write = func(depth int, around map[string]int) {
		for range m.pick(0, 1, 2, 3, 4, 6) {
			form := pickOf(m, []string{"field @ : amount 1 needed", "field @ : flag needed", "field @ : text needed", "field @ : amount 2", "line @ : amount 0 up = 1 + 1", "line @ : flag = true", "check @ = false", "check @ = true"})
			b.WriteString(strings.Replace(form, "@", m.name(around), 1) + " ; ")
		}
		var kids []string
		for depth < api.MaxDepth && room > 0 && m.IntN(3) > 0 {
			room--
			kids = append(kids, m.name(around))
		}
		for _, kid := range kids {
			b.WriteString("section " + kid + " max " + strconv.Itoa(m.pick(1, 2, 4, 9, api.MaxRows)) + " { ")
			write(depth+1, maps.Clone(around))
			b.WriteString("} ")
		}
	}
	b.WriteString("return r { ")
	write(1, map[string]int{})
	return b.String() + "}"
}

// change changes a return by one step; what is refused is no change.
func (m maker) change(x ret) {
	rows := slices.Collect(x.All())
	r := pickOf(m, rows)
	switch m.IntN(12) {
	case 0:
		if x.Len() > 8 {
			x.Delete(r)
		}
	case 1, 2, 3:
		x.Move(r, m.IntN(4))
	case 4, 5, 6:
		c := cell(r, m.IntN(8))
		for _, v := range []string{"2.5", "1.25", "true", "false", "'x'", "''"} {
			if m.IntN(2) > 0 {
				x.Set(c, valueOf(v))
			}
		}
		if m.IntN(5) == 0 {
			x.Clear(c)
		}
	default:
		var kids []int
		for n, sect := range x.l {
			if sect.Parent == r.Section {
				kids = append(kids, n)
			}
		}
		if len(kids) > 0 {
			section := pickOf(m, kids)
			x.Insert(r, section, m.IntN(len(x.Rows(r, section))+1))
		}
	}
}

// any is a value of any kind, of a kind that there is not, or one whose other parts are filled.
func (m maker) any() api.Value {
	v := valueOf(pickOf(m, []string{"blank", "true", "true", "true", "true", "false", "1", "-2.50", "'x'", "!1", "!2", "!3", "!4", "!5", "!0", "!6", "!-1"}))
	if m.IntN(10) == 0 {
		v.Kind = m.pick(-1, 0, 1, 2, 3, 4, 5, math.MaxInt)
	}
	if m.IntN(10) == 0 {
		v.Flag, v.Err, v.Text = m.IntN(2) > 0, m.IntN(9)-2, "y"
	}
	return v
}

// ret makes up a return, and what its lines say: of most cells, and of some that there are not.
func (m maker) ret(t *testing.T) ret {
	t.Helper()
	x := retOf(t, m.definition())
	for range m.pick(0, 10, 40, 120, 200) {
		m.change(x)
	}
	if m.IntN(4) == 0 {
		made, e := model.New(x.Store)
		if e != api.OK {
			t.Fatal("model.New", e)
		}
		x.lines = maps.Collect(made.All())
		return x
	}
	for _, c := range x.everyCell() {
		if m.IntN(5) > 0 {
			x.lines[c] = m.any()
		}
	}
	for range m.IntN(9) {
		x.lines[m.cell(x)] = m.any()
	}
	return x
}

// cell is one that mostly is there, or is changed a bit.
func (m maker) cell(x ret) api.Cell {
	c := cell(pickOf(m, slices.Collect(x.All())), m.IntN(7))
	switch m.IntN(8) {
	case 0:
		c.Item = m.pick(-1, 64, math.MinInt, math.MaxInt)
	case 1:
		c.Row.Section = m.pick(-1, m.IntN(len(x.l)), len(x.l), math.MinInt, math.MaxInt)
	case 2:
		c.Row.Ids[m.IntN(3)] = []int64{0, 1, 2, 3, -1, math.MinInt64, math.MaxInt64}[m.IntN(7)]
	}
	return c
}

// names are some of the definition's, and some that nobody has.
func (m maker) names(x ret) []string {
	var l []string
	for range m.pick(0, 0, 1, 1, 2, 3, 6) {
		sect := x.l[m.pick(0, 0, m.IntN(len(x.l)))]
		switch {
		case m.IntN(6) == 0:
			l = append(l, pickOf(m, []string{"", "nobody", "n", "r"}))
		case m.IntN(2) == 0 && len(sect.Items) > 0:
			l = append(l, pickOf(m, sect.Items).Name)
		default:
			l = append(l, pickOf(m, x.l).Name)
		}
	}
	return l
}

// P21.1 to P21.3 over made-up returns, lines and names, against the chapter's words.
func TestMade(t *testing.T) {
	kinds, skipped, deep := map[int]int{}, 0, 0
	for seed := range uint64(900) {
		m := maker{rand.New(rand.NewPCG(seed, 21))}
		x := m.ret(t)
		for range 3 {
			names := m.names(x)
			want := x.saidFaults(names...)
			if got := rules.Faults(x.Store, x.lines, names...); !sameFaults(got, want) {
				t.Fatalf("Faults without %q:\n%s\nnot:\n%s\nin %s", names, x.text(got), x.text(want), x.Schema().Text())
			}
			for _, f := range want {
				kinds[f.Kind]++
				deep += len(f.At) / 6
			}
			for range 40 {
				c, v := m.cell(x), m.any()
				if got, want := rules.Skipped(x.Store, c, names...), x.saidSkipped(c, names...); got != want {
					t.Fatalf("Skipped of %v by %q: %v, in %s", c, names, got, x.Schema().Text())
				} else if got {
					skipped++
				}
				if got, want := rules.At(x.Store, c.Row), x.saidAt(c.Row); !slices.Equal(got, want) {
					t.Fatalf("At of %v: %v, not %v", c.Row, got, want)
				}
				f, ok := rules.Of(x.Store, c, v, names...)
				if want, is := x.saidOf(c, v, names...); !sameFault(f, want) || ok != is {
					t.Fatalf("Of %v, %v by %q: %v %v, not %v", c, v, names, f, ok, want)
				}
			}
		}
	}
	if kinds[api.FtNeed] < 2000 || kinds[api.FtFalse] < 500 || kinds[api.FtBlank] < 500 || kinds[api.FtError] < 2000 || skipped < 2000 || deep < 500 {
		t.Error("too tame", kinds, skipped, deep)
	}
}

// P21.5: Faults rises by Compare, and no two are as great.
func TestMadeRises(t *testing.T) {
	pairs := 0
	for seed := range uint64(600) {
		m := maker{rand.New(rand.NewPCG(seed, 215))}
		x := m.ret(t)
		l := rules.Faults(x.Store, x.lines, m.names(x)...)
		for n := range l {
			for k := range l[:n] {
				pairs++
				if rules.Compare(l[k], l[n]) != -1 || rules.Compare(l[n], l[k]) != 1 {
					t.Fatalf("Compare of %v, %v", l[k], l[n])
				}
			}
		}
		mixed := cloned(l)
		m.Shuffle(len(mixed), func(i, j int) { mixed[i], mixed[j] = mixed[j], mixed[i] })
		slices.SortFunc(mixed, rules.Compare)
		if !sameFaults(mixed, l) {
			t.Fatal("another order", mixed, l)
		}
	}
	if pairs < 20000 {
		t.Error("too tame", pairs)
	}
}

// P21.6: of two returns with the same Plain, and lines with the same values at the same places, the faults are the same, but for ids.
func TestMadeIdsSayNothing(t *testing.T) {
	faults, others := 0, 0
	for seed := range uint64(500) {
		m := maker{rand.New(rand.NewPCG(seed, 216))}
		x := m.ret(t)
		y, e := store.Fill(x.Schema(), x.Plain())
		if e != api.OK {
			t.Fatal("Fill", e)
		}
		there := slices.Collect(y.All())
		as := map[api.Row]api.Row{}
		for n, r := range slices.Collect(x.All()) {
			as[r] = there[n]
		}
		lines := map[api.Cell]api.Value{}
		for _, c := range x.everyCell() {
			if v, ok := x.lines[c]; ok {
				lines[cell(as[c.Row], c.Item)] = v
			}
		}
		names := m.names(x)
		want := rules.Faults(x.Store, x.lines, names...)
		for n := range want {
			r := want[n].Cell.Row
			if as[r] != r {
				others++
			}
			want[n].Cell.Row = as[r]
		}
		faults += len(want)
		if got := rules.Faults(y, lines, names...); !sameFaults(got, want) {
			t.Fatalf("Faults:\n%v\nnot:\n%v", got, want)
		}
	}
	if faults < 2000 || others < 1500 {
		t.Error("too tame", faults, others)
	}
}

// P21.7: with more names there are no more faults, and of those that are left none is changed.
func TestMadeMoreNames(t *testing.T) {
	gone := 0
	for seed := range uint64(700) {
		m := maker{rand.New(rand.NewPCG(seed, 217))}
		x := m.ret(t)
		names := m.names(x)
		more := append(m.names(x), names...)
		m.Shuffle(len(more), func(i, j int) { more[i], more[j] = more[j], more[i] })
		fewer, all := rules.Faults(x.Store, x.lines, more...), rules.Faults(x.Store, x.lines, names...)
		left := slices.DeleteFunc(cloned(all), func(f api.Fault) bool {
			return f.Kind == api.FtNeed && rules.Skipped(x.Store, f.Cell, more...)
		})
		if !sameFaults(fewer, left) || len(fewer) > len(all) {
			t.Fatalf("without %q:\n%s\nwithout %q:\n%s", names, x.text(all), more, x.text(fewer))
		}
		gone += len(all) - len(fewer)
	}
	if gone < 300 {
		t.Error("too tame", gone)
	}
}

// Text, of all that is told of made-up returns: a path of places that leads to the cell.
func TestMadeText(t *testing.T) {
	for seed := range uint64(150) {
		m := maker{rand.New(rand.NewPCG(seed, 214))}
		x := m.ret(t)
		for _, f := range rules.Faults(x.Store, x.lines) {
			want := []string{"", "needed", "false", "blank", "error " + strconv.Itoa(f.Err)}[f.Kind] + " "
			at := root
			for n := 0; n < len(f.At); n += 2 {
				at = x.Rows(at, f.At[n])[f.At[n+1]]
				want += "/" + x.l[at.Section].Name + "[" + strconv.Itoa(f.At[n+1]) + "]"
			}
			want += "." + x.l[at.Section].Items[f.Cell.Item].Name
			if got := rules.Text(x.l, f); got != want || at != f.Cell.Row {
				t.Fatalf("Text of %v: %q, not %q", f, got, want)
			}
		}
	}
}
