package seqtree_test

import (
	"math"
	"math/bits"
	"math/rand/v2"
	"slices"
	"testing"

	"excise/api"
	"excise/seqtree"
)

var (
	noIds    = []int64{0, -1, math.MinInt64, api.MaxId + 1, math.MaxInt64}
	noPlaces = []int{-1, -2, math.MinInt, math.MaxInt}
)

func ids(t *seqtree.Tree) []int64 {
	var list []int64
	for _, id := range t.All() {
		list = append(list, id)
	}
	return list
}

// of is a tree with these ids, each put behind all.
func of(t *testing.T, list ...int64) *seqtree.Tree {
	t.Helper()
	x := seqtree.New()
	for i, id := range list {
		insert(t, x, i, id)
	}
	return x
}

// upTo is a tree of the ids from 1 to n.
func upTo(t *testing.T, n int) *seqtree.Tree {
	t.Helper()
	list := make([]int64, n)
	for i := range list {
		list[i] = int64(i + 1)
	}
	return of(t, list...)
}

func insert(t *testing.T, x *seqtree.Tree, at int, id int64) {
	t.Helper()
	if e := x.Insert(at, id); e != api.OK {
		t.Fatalf("Insert(%d, %d): %d", at, id, e)
	}
}

// is holds every answer of x against the list that it should mean.
func is(t *testing.T, x *seqtree.Tree, list ...int64) {
	t.Helper()
	if x.Len() != len(list) {
		t.Fatalf("Len: %d, not %d", x.Len(), len(list))
	}
	next := 0
	for i, id := range x.All() {
		if i != next || i >= len(list) || id != list[i] {
			t.Fatalf("All: %d at %d, of %v", id, i, list)
		}
		next++
	}
	if next != len(list) {
		t.Fatalf("All: %d ids of %d", next, len(list))
	}
	for i, id := range list {
		if got, is := x.At(i); got != id || !is {
			t.Fatalf("At(%d): %d %v, not %d", i, got, is, id)
		}
		if at, is := x.Index(id); at != i || !is {
			t.Fatalf("Index(%d): %d %v, not %d", id, at, is, i)
		}
	}
	for _, i := range append([]int{len(list), len(list) + 1}, noPlaces...) {
		if id, is := x.At(i); id != 0 || is {
			t.Fatalf("At(%d): %d %v", i, id, is)
		}
	}
	if d := x.Depth(); d > 3*bits.Len(uint(len(list))) || d < bits.Len(uint(len(list))) {
		t.Fatalf("Depth: %d of %d ids", d, len(list))
	}
}

// bound is how many nodes a call may look at, if the greater Len is n.
func bound(n int) int64 { return 24 * (1 + int64(bits.Len(uint(n)))) }

// looks does something, and tells how many nodes were looked at.
func looks(x *seqtree.Tree, do func()) int64 {
	before := x.Looked()
	do()
	return x.Looked() - before
}

// same tells that a refused call has changed nothing.
func same(t *testing.T, x *seqtree.Tree, do func()) {
	t.Helper()
	list, depth, looked := ids(x), x.Depth(), x.Looked()
	do()
	if x.Depth() != depth || x.Looked() != looked {
		t.Errorf("changed: depth %d, now %d; looked %d, now %d", depth, x.Depth(), looked, x.Looked())
	}
	is(t, x, list...)
}

func TestExample(t *testing.T) {
	x := seqtree.New()
	insert(t, x, 0, 7)
	insert(t, x, 0, 9)
	insert(t, x, 1, 8)
	is(t, x, 9, 8, 7)
	if at, e := x.Move(9, 2); at != 0 || e != api.OK {
		t.Error("Move", at, e)
	}
	is(t, x, 8, 7, 9)
	if at, is := x.Index(9); at != 2 || !is {
		t.Error("Index", at, is)
	}
	if d := x.Depth(); d != 2 {
		t.Error("Depth", d)
	}
}

func TestEmpty(t *testing.T) {
	x := seqtree.New()
	is(t, x)
	if x.Depth() != 0 || x.Looked() != 0 {
		t.Error(x.Depth(), x.Looked())
	}
	if at, is := x.Index(1); at != 0 || is {
		t.Error("Index", at, is)
	}
	for _, at := range append([]int{1}, noPlaces...) {
		if e := x.Insert(at, 1); e != api.ErrArg {
			t.Error("Insert", at, e)
		}
	}
	if at, e := x.Delete(1); at != 0 || e != api.ErrNone {
		t.Error("Delete", at, e)
	}
	if at, e := x.Move(1, 0); at != 0 || e != api.ErrNone {
		t.Error("Move", at, e)
	}
	is(t, x)
	if x.Looked() != 0 {
		t.Error("Looked", x.Looked())
	}
}

func TestOneId(t *testing.T) {
	for _, id := range []int64{1, 2, api.MaxId - 1, api.MaxId} {
		x := seqtree.New()
		insert(t, x, 0, id)
		is(t, x, id)
		if x.Depth() != 1 {
			t.Error("Depth", x.Depth())
		}
		if at, e := x.Move(id, 0); at != 0 || e != api.OK {
			t.Error("Move", at, e)
		}
		is(t, x, id)
		if at, e := x.Move(id, 1); at != 0 || e != api.ErrArg {
			t.Error("Move", at, e)
		}
		if at, e := x.Delete(id); at != 0 || e != api.OK {
			t.Error("Delete", at, e)
		}
		is(t, x)
		if _, is := x.Index(id); is || x.Depth() != 0 {
			t.Error("Index", is, x.Depth())
		}
		insert(t, x, 0, id)
		is(t, x, id)
	}
}

func TestInsertPlaces(t *testing.T) {
	list := []int64{40, 10, 30, 20, 50}
	for at := range len(list) + 1 {
		x := of(t, list...)
		insert(t, x, at, 7)
		is(t, x, slices.Insert(slices.Clone(list), at, 7)...)
	}
	x := of(t, list...)
	for _, at := range append([]int{6, 7}, noPlaces...) {
		same(t, x, func() {
			if e := x.Insert(at, 7); e != api.ErrArg {
				t.Error("Insert", at, e)
			}
		})
	}
}

func TestInsertIds(t *testing.T) {
	x := of(t, 1, api.MaxId)
	for _, id := range noIds {
		same(t, x, func() {
			if e := x.Insert(1, id); e != api.ErrArg {
				t.Error("Insert", id, e)
			}
		})
	}
	for _, id := range []int64{1, api.MaxId} {
		for at := range 3 {
			same(t, x, func() {
				if e := x.Insert(at, id); e != api.ErrTwice {
					t.Error("Insert", id, e)
				}
			})
		}
	}
}

func TestFull(t *testing.T) {
	x := upTo(t, api.MaxRows-1)
	insert(t, x, 500, api.MaxRows)
	for _, at := range []int{0, 500, api.MaxRows, api.MaxRows + 1, -1} {
		same(t, x, func() {
			if e := x.Insert(at, api.MaxRows+1); e != api.ErrFull {
				t.Error("Insert", at, e)
			}
		})
	}
	if at, e := x.Move(1, api.MaxRows-1); at != 0 || e != api.OK {
		t.Error("Move", at, e)
	}
	if at, e := x.Delete(api.MaxRows); at != 499 || e != api.OK {
		t.Error("Delete", at, e)
	}
	insert(t, x, api.MaxRows-1, api.MaxRows+1)
	if e := x.Insert(0, api.MaxRows+2); e != api.ErrFull {
		t.Error("Insert", e)
	}
}

func TestWhichErrorIsFirst(t *testing.T) {
	full := upTo(t, api.MaxRows)
	few := of(t, 5, 6)
	cases := []struct {
		x    *seqtree.Tree
		at   int
		id   int64
		want api.Errno
	}{
		{nil, -1, 0, api.ErrMade},
		{&seqtree.Tree{}, -1, 0, api.ErrMade},
		{full, 0, 0, api.ErrArg},
		{full, -1, api.MaxId + 1, api.ErrArg},
		{full, 0, 1, api.ErrTwice},
		{full, -1, 1, api.ErrTwice},
		{full, -1, api.MaxRows + 1, api.ErrFull},
		{few, 3, 5, api.ErrTwice},
		{few, -1, 6, api.ErrTwice},
		{few, 3, 7, api.ErrArg},
	}
	for _, c := range cases {
		if e := c.x.Insert(c.at, c.id); e != c.want {
			t.Errorf("Insert(%d, %d): %d, not %d", c.at, c.id, e, c.want)
		}
	}
	for _, to := range []int{-1, 0, 2, 3} {
		if at, e := few.Move(7, to); at != 0 || e != api.ErrNone {
			t.Error("Move of none", to, at, e)
		}
	}
	is(t, few, 5, 6)
}

func TestDelete(t *testing.T) {
	list := []int64{40, 10, 30, 20, 50}
	for i, id := range list {
		x := of(t, list...)
		if at, e := x.Delete(id); at != i || e != api.OK {
			t.Error("Delete", id, at, e)
		}
		is(t, x, slices.Delete(slices.Clone(list), i, i+1)...)
		same(t, x, func() {
			if at, e := x.Delete(id); at != 0 || e != api.ErrNone {
				t.Error("Delete", id, at, e)
			}
		})
	}
	x := of(t, list...)
	for _, id := range append([]int64{7, api.MaxId}, noIds...) {
		same(t, x, func() {
			if at, e := x.Delete(id); at != 0 || e != api.ErrNone {
				t.Error("Delete", id, at, e)
			}
			if at, is := x.Index(id); at != 0 || is {
				t.Error("Index", id, at, is)
			}
		})
	}
}

// moved is the list, the id at from being put to to.
func moved(list []int64, from, to int) []int64 {
	id := list[from]
	return slices.Insert(slices.Delete(slices.Clone(list), from, from+1), to, id)
}

func TestMove(t *testing.T) {
	list := []int64{40, 10, 30, 20, 50}
	for from, id := range list {
		for to := range list {
			x := of(t, list...)
			if at, e := x.Move(id, to); at != from || e != api.OK {
				t.Error("Move", id, to, at, e)
			}
			is(t, x, moved(list, from, to)...)
		}
	}
	x := of(t, list...)
	for _, to := range append([]int{5, 6}, noPlaces...) {
		same(t, x, func() {
			if at, e := x.Move(40, to); at != 0 || e != api.ErrArg {
				t.Error("Move", to, at, e)
			}
		})
	}
	for _, id := range append([]int64{7, api.MaxId}, noIds...) {
		same(t, x, func() {
			if at, e := x.Move(id, 0); at != 0 || e != api.ErrNone {
				t.Error("Move", id, at, e)
			}
		})
	}
}

func TestUnmade(t *testing.T) {
	for _, x := range []*seqtree.Tree{nil, {}} {
		if e := x.Insert(0, 1); e != api.ErrMade {
			t.Error("Insert", e)
		}
		if at, e := x.Delete(1); at != 0 || e != api.ErrMade {
			t.Error("Delete", at, e)
		}
		if at, e := x.Move(1, 0); at != 0 || e != api.ErrMade {
			t.Error("Move", at, e)
		}
		if id, is := x.At(0); id != 0 || is {
			t.Error("At", id, is)
		}
		if at, is := x.Index(1); at != 0 || is {
			t.Error("Index", at, is)
		}
		for i, id := range x.All() {
			t.Error("All", i, id)
		}
		if x.Len() != 0 || x.Depth() != 0 || x.Looked() != 0 || x.Clone() != nil {
			t.Error(x.Len(), x.Depth(), x.Looked(), x.Clone())
		}
	}
}

func TestAllStops(t *testing.T) {
	x := of(t, 3, 1, 2)
	all := x.All()
	for stop := range 4 {
		n := 0
		for i, id := range all {
			if i != n || id != []int64{3, 1, 2}[i] {
				t.Error(i, id)
			}
			if n++; n == stop {
				break
			}
		}
		if want := stop; n != want && stop != 0 || stop == 0 && n != 3 {
			t.Error("told", n, "of", stop)
		}
	}
}

// TestAllTellsWhatWas: changes behind All are not told, not even those amid its going through.
func TestAllTellsWhatWas(t *testing.T) {
	x := of(t, 3, 1, 2)
	all := x.All()
	var got []int64
	for i, id := range all {
		got = append(got, id)
		insert(t, x, 0, int64(10+i))
		if _, e := x.Delete(id); e != api.OK {
			t.Error("Delete", e)
		}
	}
	if !slices.Equal(got, []int64{3, 1, 2}) {
		t.Error(got)
	}
	is(t, x, 12, 11, 10)
	got = nil
	for _, id := range all {
		got = append(got, id)
	}
	if !slices.Equal(got, []int64{3, 1, 2}) {
		t.Error("again", got)
	}
	empty := seqtree.New()
	none := empty.All()
	insert(t, empty, 0, 1)
	for range none {
		t.Error("told what came later")
	}
}

func TestClone(t *testing.T) {
	for _, n := range []int{0, 1, 2, 3, 10, 100, api.MaxRows - 1} {
		x := upTo(t, n)
		list := ids(x)
		y := x.Clone()
		if y.Depth() != x.Depth() || y.Looked() != x.Looked() {
			t.Error("Clone", y.Depth(), x.Depth(), y.Looked(), x.Looked())
		}
		is(t, y, list...)
		looked := x.Looked()
		insert(t, y, n/2, api.MaxId)
		if n > 0 {
			y.Delete(1)
			y.Move(api.MaxId, 0)
		}
		after := ids(y)
		if x.Looked() != looked {
			t.Error("Looked of the one changed by the other")
		}
		is(t, x, list...)
		insert(t, x, 0, api.MaxId)
		if n > 1 {
			x.Delete(2)
		}
		is(t, y, after...)
	}
}

// insertions goes through all ways to put n ids into an empty tree, one behind the other.
func insertions(n int, do func(places []int)) {
	places := make([]int, n)
	var from func(i int)
	from = func(i int) {
		if i == n {
			do(places)
			return
		}
		for at := range i + 1 {
			places[i] = at
			from(i + 1)
		}
	}
	from(0)
}

func build(t *testing.T, places []int) (*seqtree.Tree, []int64) {
	t.Helper()
	x := seqtree.New()
	var list []int64
	for i, at := range places {
		insert(t, x, at, int64(i+1))
		list = slices.Insert(list, at, int64(i+1))
	}
	return x, list
}

// TestSmall goes through all trees of up to six ids: all Moves, and all Deletes behind one another.
func TestSmall(t *testing.T) {
	var empty func(x *seqtree.Tree, list []int64)
	empty = func(x *seqtree.Tree, list []int64) {
		is(t, x, list...)
		for i, id := range list {
			y := x.Clone()
			if at, e := y.Delete(id); at != i || e != api.OK {
				t.Fatal("Delete", at, e)
			}
			empty(y, slices.Delete(slices.Clone(list), i, i+1))
		}
	}
	for n := range 6 {
		insertions(n, func(places []int) {
			x, list := build(t, places)
			empty(x, list)
		})
	}
	insertions(6, func(places []int) {
		x, list := build(t, places)
		is(t, x, list...)
		for from, id := range list {
			for to := range list {
				y := x.Clone()
				if at, e := y.Move(id, to); at != from || e != api.OK {
					t.Fatal("Move", at, e)
				}
				is(t, y, moved(list, from, to)...)
			}
		}
	})
}

// play does steps at random on a tree and on a list, and holds the one against the other.
type play struct {
	t    *testing.T
	x    *seqtree.Tree
	list []int64
	next int64
	r    *rand.Rand
}

// within fails, if a step looked at more nodes than times the bound.
func (p *play) within(name string, times int64, ahead int, looked int64) {
	p.t.Helper()
	if most := times * bound(max(ahead, len(p.list))); looked > most || looked < 1 {
		p.t.Fatalf("%s looked at %d nodes of at most %d", name, looked, most)
	}
	if d := p.x.Depth(); d > 3*bits.Len(uint(len(p.list))) {
		p.t.Fatalf("%s: Depth %d of %d ids", name, d, len(p.list))
	}
}

func (p *play) insert(at int) {
	p.t.Helper()
	p.next++
	n := looks(p.x, func() { insert(p.t, p.x, at, p.next) })
	ahead := len(p.list)
	p.list = slices.Insert(p.list, at, p.next)
	p.within("Insert", 1, ahead, n)
}

func (p *play) delete(at int) {
	p.t.Helper()
	n := looks(p.x, func() {
		if got, e := p.x.Delete(p.list[at]); got != at || e != api.OK {
			p.t.Fatal("Delete", got, at, e)
		}
	})
	ahead := len(p.list)
	p.list = slices.Delete(p.list, at, at+1)
	p.within("Delete", 1, ahead, n)
}

func (p *play) move(from, to int) {
	p.t.Helper()
	n := looks(p.x, func() {
		if got, e := p.x.Move(p.list[from], to); got != from || e != api.OK {
			p.t.Fatal("Move", got, from, e)
		}
	})
	p.list = moved(p.list, from, to)
	p.within("Move", 2, len(p.list), n)
}

// ask asks for one place and its id.
func (p *play) ask(at int) {
	p.t.Helper()
	n := looks(p.x, func() {
		if id, is := p.x.At(at); id != p.list[at] || !is {
			p.t.Fatal("At", at, id, is)
		}
	})
	p.within("At", 1, 0, n)
	n = looks(p.x, func() {
		if got, is := p.x.Index(p.list[at]); got != at || !is {
			p.t.Fatal("Index", got, at, is)
		}
	})
	p.within("Index", 1, 0, n)
}

// place is one of n places, chosen by a way: ahead of all, behind all, in the middle, or anywhere.
func (p *play) place(way, n int) int {
	return []int{0, n - 1, n / 2, p.r.IntN(n)}[way]
}

// TestFillAndEmpty fills trees to MaxRows and empties them, in each of four ways.
func TestFillAndEmpty(t *testing.T) {
	for in := range 4 {
		for out := range 4 {
			p := &play{t: t, x: seqtree.New(), r: rand.New(rand.NewPCG(uint64(in), uint64(out)))}
			for n := range api.MaxRows {
				p.insert(p.place(in, n+1))
				p.ask(p.place(out, n+1))
			}
			is(t, p.x, p.list...)
			for i := range p.list {
				p.ask(i)
			}
			for n := api.MaxRows; n > 0; n-- {
				p.delete(p.place(out, n))
				if n%100 == 2 {
					is(t, p.x, p.list...)
				}
			}
			is(t, p.x)
		}
	}
}

// TestMoves moves ids in each of four ways from and to.
func TestMoves(t *testing.T) {
	for _, n := range []int{2, 3, 17, 300, api.MaxRows} {
		for from := range 4 {
			for to := range 4 {
				p := &play{t: t, x: seqtree.New(), r: rand.New(rand.NewPCG(uint64(from), uint64(to)))}
				for i := range n {
					p.insert(i)
				}
				for range min(2*n, 500) {
					p.move(p.place(from, n), p.place(to, n))
				}
				is(t, p.x, p.list...)
			}
		}
	}
}

func TestRandomSteps(t *testing.T) {
	for seed := range uint64(40) {
		p := &play{t: t, x: seqtree.New(), r: rand.New(rand.NewPCG(seed, 4))}
		most := 1 + int(seed)*int(seed)/2
		for range 1500 {
			n := len(p.list)
			switch k := p.r.IntN(6); {
			case k < 3 && n < most || n == 0:
				p.insert(p.r.IntN(n + 1))
			case k < 5 && k > 0:
				p.delete(p.r.IntN(n))
			default:
				p.move(p.r.IntN(n), p.r.IntN(n))
			}
			if p.r.IntN(20) == 0 {
				is(t, p.x, p.list...)
			}
		}
		is(t, p.x, p.list...)
	}
}

// TestLookedOfNothing: who is refused, or asks for what is not there, looks at no node; nor does who goes through all count as a look.
func TestLookedOfNothing(t *testing.T) {
	x := upTo(t, 100)
	n := looks(x, func() {
		x.Insert(101, 200)
		x.Insert(0, 50)
		x.Delete(200)
		x.Move(200, 0)
		x.Move(50, 100)
		x.At(100)
		x.Index(200)
		ids(x)
		x.Len()
		x.Depth()
		x.Looked()
		x.Clone()
	})
	if n != 0 {
		t.Error("Looked", n)
	}
}

// TestUndo is P4.4.
func TestUndo(t *testing.T) {
	for _, n := range []int{0, 1, 2, 5, 40, 200} {
		x := upTo(t, n)
		list := ids(x)
		for at := range n + 1 {
			insert(t, x, at, api.MaxId)
			if got, e := x.Delete(api.MaxId); got != at || e != api.OK {
				t.Fatal("Delete", got, e)
			}
		}
		is(t, x, list...)
		for from := range n {
			for to := 0; to < n; to += 1 + n/20 {
				id := list[from]
				there, e := x.Move(id, to)
				if there != from || e != api.OK {
					t.Fatal("Move", there, e)
				}
				if back, e := x.Move(id, there); back != to || e != api.OK {
					t.Fatal("Move back", back, e)
				}
			}
		}
		is(t, x, list...)
		for i := range n {
			id, _ := x.At(i)
			if at, is := x.Index(id); at != i || !is {
				t.Error("Index of At", i, at)
			}
		}
	}
}

// TestHistoryDoesNotMatter is P4.5: one list, come to in several ways.
func TestHistoryDoesNotMatter(t *testing.T) {
	const n = 300
	var list []int64
	for i := range n {
		list = append(list, int64(i*7%n+1))
	}
	ahead := seqtree.New()
	for _, id := range slices.Backward(list) {
		insert(t, ahead, 0, id)
	}
	is(t, ahead, list...)
	is(t, of(t, list...), list...)
	sorted := upTo(t, n)
	for to, id := range list {
		sorted.Move(id, to)
	}
	is(t, sorted, list...)
	much := upTo(t, api.MaxRows)
	for id := api.MaxRows; id > n; id-- {
		much.Delete(int64(id))
	}
	for _, id := range list {
		much.Move(id, n-1)
	}
	is(t, much, list...)
}

// TestTheSameCallsAnswerTheSame: shape and looks, too.
func TestTheSameCallsAnswerTheSame(t *testing.T) {
	run := func() []int64 {
		var told []int64
		x := upTo(t, 400)
		for id := range int64(300) {
			at, _ := x.Move(id+1, int(id*id%400))
			told = append(told, int64(at), x.Looked(), int64(x.Depth()))
			if id%3 == 0 {
				x.Delete(id + 1)
				x.Insert(int(id), id+1)
			}
		}
		return append(told, ids(x)...)
	}
	if first := run(); !slices.Equal(first, run()) {
		t.Error("two runs differ")
	}
}
