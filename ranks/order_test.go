package ranks

import (
	"math"
	"slices"
	"strconv"
	"strings"
	"testing"
	"time"

	"excise/api"
)

func wantBelow(t *testing.T, l []api.Sect, n int, want ...int) {
	t.Helper()
	if got := Below(l, n); !slices.Equal(got, want) {
		t.Errorf("Below(.., %d) is %d, not %d, of %+v", n, got, want, l)
	}
}

// wantRanks: ranks nil for a cycle.
func wantRanks(t *testing.T, l []api.Sect, ranks, order []int) {
	t.Helper()
	e := api.OK
	if ranks == nil {
		e = api.ErrCycle
	}
	if got, f := Ranks(l); f != e || !slices.Equal(got, ranks) || f != api.OK && got != nil {
		t.Errorf("Ranks is %d, %d, not %d, %d, of %+v", got, f, ranks, e, l)
	}
	if got, f := Order(l); f != e || !slices.Equal(got, order) || f != api.OK && got != nil {
		t.Errorf("Order is %d, %d, not %d, %d, of %+v", got, f, order, e, l)
	}
}

func wantStuck(t *testing.T, l []api.Sect, want ...int) {
	t.Helper()
	if got := Stuck(l); !slices.Equal(got, want) {
		t.Errorf("Stuck is %d, not %d, of %+v", got, want, l)
	}
}

// A drawn list, what its Ranks and Order are (of a cycle: empty), Stuck, and Below of each item.
type drawn struct {
	text, ranks, order, stuck string
	below                     string
}

func (d drawn) hold(t *testing.T) {
	t.Helper()
	l := chart(d.text)
	wantRanks(t, l, numbers(d.ranks), numbers(d.order))
	wantStuck(t, l, numbers(d.stuck)...)
	below := strings.Split(d.below, "/")
	if _, count := items(l); count != len(below) {
		t.Fatalf("%s: %d items, not %d", d.text, count, len(below))
	}
	for n := range below {
		wantBelow(t, l, n, numbers(below[n])...)
	}
}

// P11.3: the chapter's examples, and the shared test's.
func TestRanksExamples(t *testing.T) {
	for _, d := range []drawn{
		{"-1 r a b:a,c c:a", "0 2 1", "0 2 1", "", "1 2//1"},
		{"-1 r b:c c:b", "", "", "0 1", "0 1/0 1"},
		{"-1 r a all:s.t,a / 0 s p t:p,a", "0 2 0 1", "0 2 3 1", "", "1 3//1 3/1"},
		{"-1 r a all:s.t,a / 0 s p t:p,all", "", "", "1 3", "1 3/1 3/1 3/1 3"},
	} {
		d.hold(t)
	}
	l := flat(t, "return r { line a : amount 0 up = b ; line b : amount 0 up = a ; }")
	wantRanks(t, l, nil, nil)
	wantStuck(t, l, 0, 1)
}

// P11.3: chains both ways, trees, two ways of unlike length, items of one rank in several sections, checks and items that read nothing.
func TestRanks(t *testing.T) {
	for _, d := range []drawn{
		{"-1 r a", "0", "0", "", ""},
		{"-1 r a:b", "0", "0", "", ""},
		{"-1 r a b c", "0 0 0", "0 1 2", "", "//"},
		{"-1 r a b:a c:b d:c", "0 1 2 3", "0 1 2 3", "", "1 2 3/2 3/3/"},
		{"-1 r a:b b:c c:d d", "3 2 1 0", "3 2 1 0", "", "/0/0 1/0 1 2"},
		{"-1 r b:c c:a a d!b", "2 1 0 3", "2 1 0 3", "", "3/0 3/0 1 3/"},
		{"-1 r a b:a c:a d:b,c", "0 1 1 2", "0 1 2 3", "", "1 2 3/3/3/"},
		{"-1 r e:a,d d:c c:b b:a a", "4 3 2 1 0", "4 3 2 1 0", "", "/0/0 1/0 1 2/0 1 2 3"},
		{"-1 r a b:a c:b d:a,c e:d,a,b", "0 1 2 3 4", "0 1 2 3 4", "", "1 2 3 4/2 3 4/3 4/4/"},
		{"-1 r c:a,b b:a a d:a e!d,c", "2 1 0 1 3", "2 1 3 0 4", "", "4/0 4/0 1 3 4/4/"},
		{"-1 r a b:a,s.y / 0 s x:a y:x,a / 0 v k l:k m:a,b / 1 u w:x", "0 3 1 2 0 1 4 2", "0 4 2 5 3 7 1 6", "", "1 2 3 6 7/6/1 3 6 7/1 6/5///"},
		{"-1 r a:s.b / 0 s b:u.c / 1 u c:w.d / 2 w d:e e", "4 3 2 1 0", "4 3 2 1 0", "", "/0/0 1/0 1 2/0 1 2 3"},
		{"-1 r a / 0 s b:a / 1 u c:b,a / 2 w d:c e:a", "0 1 2 3 1", "0 1 4 2 3", "", "1 2 3 4/2 3/3//"},
	} {
		d.hold(t)
	}
}

// P11.3: an item that reads itself, cycles of two and more, what reads into them and what they read, several at once, and over sections.
func TestCycles(t *testing.T) {
	for _, d := range []drawn{
		{"-1 r a:a", "", "", "0", "0"},
		{"-1 r a:a b", "", "", "0", "0/"},
		{"-1 r a b:b,a c:a", "", "", "1", "1 2/1/"},
		{"-1 r a b:a c:c d:c e:d,b f!e", "", "", "2 3 4 5", "1 4 5/4 5/2 3 4 5/4 5/5/"},
		{"-1 r a!a", "0", "0", "", ""},
		{"-1 r a:b b:c c:a d:a e", "", "", "0 1 2 3", "0 1 2 3/0 1 2 3/0 1 2 3//"},
		{"-1 r x a:x,b b:a,y y:x c:y", "", "", "1 2", "1 2 3 4/1 2/1 2/1 2 4/"},
		{"-1 r a:b b:a c:d d:c e:a,c f g:f", "", "", "0 1 2 3 4", "0 1 4/0 1 4/2 3 4/2 3 4//6/"},
		{"-1 r a:b b:a,c c:d d:c e:d", "", "", "0 1 2 3 4", "0 1/0 1/0 1 2 3 4/0 1 2 3 4/"},
		{"-1 r a:b,c b:a,c c:a,b d", "", "", "0 1 2", "0 1 2/0 1 2/0 1 2/"},
		{"-1 r a:b b:c c:d d:e e:b f:a g", "", "", "0 1 2 3 4 5", "5/0 1 2 3 4 5/0 1 2 3 4 5/0 1 2 3 4 5/0 1 2 3 4 5//"},
		{"-1 r a:s.b c:d d / 0 s b:a / 0 v k:c", "", "", "0 3", "0 3/4/1 4/0 3/"},
		{"-1 r a:s.b / 0 s b:u.c / 1 u c:d d:a e:b f", "", "", "0 1 2 3 4", "0 1 2 3 4/0 1 2 3 4/0 1 2 3 4/0 1 2 3 4//"},
	} {
		d.hold(t)
	}
	for many := 1; many <= 40; many++ {
		ring := root()
		for n := range many {
			ring[0].Items = append(ring[0].Items, line(numbered(n), name(numbered((n+1)%many))))
		}
		all := rising(0, many)
		wantRanks(t, ring, nil, nil)
		wantStuck(t, ring, all...)
		for n := range many {
			wantBelow(t, ring, n, all...)
		}
	}
}

// All lists of up to three lines of one section, each of which reads whichever of them, and a fifth of those of four.
func TestAllSmall(t *testing.T) {
	names := strings.Fields("a b c d")
	for many, step := range []int{1, 1, 1, 1, 5} {
		for bits := 0; bits < 1<<(many*many); bits += step {
			var made []api.Item
			for n := range many {
				var args []api.Expr
				for m := range many {
					if bits>>(n*many+m)&1 == 1 {
						args = append(args, name(names[m]))
					}
				}
				made = append(made, line(names[n], plus(args...)))
			}
			reach(t, root(made...))
			if t.Failed() {
				t.FailNow()
			}
		}
	}
}

// Lists that Flat never tells: parents that are not there.
func TestRawParents(t *testing.T) {
	for _, wrong := range []int{-1, -2, 4, 99, math.MaxInt, math.MinInt} {
		l := chart("-1 r a b:a,s.x,x / -1 s x:a,x,k y:u.k / 1 u k:x,y,a / -1 s x")
		l[0].Parent, l[1].Parent, l[3].Parent = wrong, wrong, wrong
		for n, want := range []string{"", "0", "2", "4", "2 3", ""} {
			wantReads(t, l, n, numbers(want)...)
		}
		for n, want := range []string{"1", "", "2 4", "4", "3", ""} {
			wantUsers(t, l, n, numbers(want)...)
		}
		wantRanks(t, l, nil, nil)
		wantStuck(t, l, 2, 3, 4)
		wantBelow(t, l, 0, 1)
		wantBelow(t, l, 2, 2, 3, 4)
		wantBelow(t, l, 4, 3, 4)
	}
}

// Lists that Flat never tells: parents that stand behind their kids.
func TestRawBehind(t *testing.T) {
	drawn{"2 k a:b,c x:b / -1 r b:u.d,c c / 1 u d:c / 4 w y:z,t / 1 v z:c t", "3 3 2 0 1 2 1 0", "3 7 4 6 2 5 0 1", "", "//0 1/0 1 2 4 5 6/0 1 2//5/5"}.hold(t)
}

// Lists that Flat never tells: parents that go in a circle, with sections that hang on it; a section that is its own parent is its own kid.
func TestRawCircle(t *testing.T) {
	l := chart("0 s a:s.a,b b:c / 0 u c:a,b,s.a k:s.b,u.c")
	for n, want := range []string{"0 1", "", "0 1", ""} {
		wantReads(t, l, n, numbers(want)...)
	}
	wantStuck(t, l, 0, 2)
	for size := 1; size <= 5; size++ {
		for shift := range size {
			l := make([]api.Sect, size)
			for n := range l {
				// Each name nearest means the section that comes up first; of x there is one alone.
				l[n] = api.Sect{Parent: (n + 1) % size, Name: "s" + strconv.Itoa(n), Items: []api.Item{
					field("own" + strconv.Itoa(n)), line("l", plus(name("x"), name("none"), name("y")))}}
			}
			l[shift].Items[0].Name = "x"
			l[(shift+2)%size].Items = append(l[(shift+2)%size].Items, field("y"))
			l[(shift+3)%size].Items = append(l[(shift+3)%size].Items, field("y"))
			reach(t, l)
			hung := append(l, api.Sect{Parent: shift, Name: "h", Items: []api.Item{line("m", plus(name("x"), name("y"), name("l")))}})
			hung = append(hung, api.Sect{Parent: size, Name: "h", Items: []api.Item{line("y", plus(name("x"), name("y"), name("m")))}})
			reach(t, hung)
			reach(t, slices.Concat(hung, many(0, 2), []api.Sect{{Parent: size + 1, Items: []api.Item{check("c", plus(name("y"), name("x")))}}}))
		}
	}
}

func inTime(t *testing.T, what string, call func()) {
	t.Helper()
	began := time.Now()
	call()
	if took := time.Since(began); took > 20*time.Second {
		t.Error(what, "took", took)
	}
}

func numbered(n int) string { return "n" + strconv.Itoa(n) }

// rising are the numbers from a number on, ahead of another one.
func rising(from, to int) []int {
	var l []int
	for n := from; n < to; n++ {
		l = append(l, n)
	}
	return l
}

// The bound: a chain whose items read the next one, and one whose items read the one ahead.
func TestLongChains(t *testing.T) {
	const long = 1 << 17
	var next, ahead []api.Item
	for n := range long {
		next = append(next, line(numbered(n), name(numbered(n+1))))
		ahead = append(ahead, line(numbered(n), name(numbered(n-1))))
	}
	up := rising(0, long)
	down := slices.Clone(up)
	slices.Reverse(down)
	inTime(t, "a chain", func() {
		wantRanks(t, root(next...), down, down)
		wantRanks(t, root(ahead...), up, up)
		wantStuck(t, root(next...))
		wantStuck(t, root(ahead...))
		wantBelow(t, root(next...), long-1, up[:long-1]...)
		wantBelow(t, root(ahead...), 0, up[1:]...)
		wantReads(t, root(next...), long-2, long-1)
		wantUsers(t, root(ahead...), long-2, long-1)
	})
	next[long-1].Expr = name(numbered(1))
	inTime(t, "a cycle", func() {
		wantRanks(t, root(next...), nil, nil)
		wantStuck(t, root(next...), up...)
		wantBelow(t, root(next...), 0)
		wantBelow(t, root(next...), long-1, up...)
	})
}

// The bound: items that read all those of some steps ahead, so that there are more ways than can be gone.
func TestManyWays(t *testing.T) {
	const long = 1 << 12
	var made []api.Item
	for n := range long {
		var args []api.Expr
		for back := range 8 {
			args = append(args, name(numbered(n+1+back)))
		}
		made = append(made, line(numbered(n), plus(args...)))
	}
	up := rising(0, long)
	down := slices.Clone(up)
	slices.Reverse(down)
	inTime(t, "many ways", func() {
		wantRanks(t, root(made...), down, down)
		wantBelow(t, root(made...), long-1, up[:long-1]...)
	})
	made[long-1].Expr = name(numbered(long - 1))
	inTime(t, "many ways into a cycle", func() {
		wantStuck(t, root(made...), up...)
	})
}

// The bound: many sections beside one another, with aggregates over each and names that mean what is around.
func TestWideLists(t *testing.T) {
	const wide = 1 << 15
	l := root(field("a"))
	for n := range wide {
		l[0].Items = append(l[0].Items, line(numbered(n), column(api.AgSum, "s"+numbered(n), "t")))
		l = append(l, api.Sect{Parent: 0, Depth: 2, Name: "s" + numbered(n), Items: []api.Item{line("t", plus(name("a"), name("none"))), line("u", name(numbered(n)))}})
	}
	ranks := []int{0}
	for range wide {
		ranks = append(ranks, 2)
	}
	for range wide {
		ranks = append(ranks, 1, 3)
	}
	inTime(t, "a wide list", func() {
		if got, e := Ranks(l); e != api.OK || !slices.Equal(got, ranks) {
			t.Error("Ranks of a wide list:", e)
		}
		if got := len(Users(l, 0)); got != wide {
			t.Error("Users of a wide list's field:", got)
		}
		if got := Below(l, 0); !slices.Equal(got, rising(1, 1+3*wide)) {
			t.Error("Below of a wide list's field:", len(got))
		}
		wantReads(t, l, 3*wide, wide)
		wantReads(t, l, wide, 3*wide-1)
	})
}

// The bound: sections within one another, deeper than a definition has them, in a circle or not, whose names mean what is farthest out.
func TestDeepLists(t *testing.T) {
	const deep = 1 << 15
	for _, parent := range []int{-1, deep - 1} {
		var l []api.Sect
		for n := range deep {
			l = append(l, api.Sect{Parent: n - 1, Items: []api.Item{line("n", plus(name("a"), name("none"), name("n"))), field(numbered(n))}})
		}
		l[0] = api.Sect{Parent: parent, Items: []api.Item{field("a"), field("b")}}
		var users []int
		for n := 1; n < deep; n++ {
			users = append(users, 2*n)
		}
		inTime(t, "a deep list", func() {
			wantUsers(t, l, 0, users...)
			wantStuck(t, l, users...)
			wantReads(t, l, 2*deep-2, 0, 2*deep-2)
		})
	}
}

// The bound: one item with many nodes, behind sections without items, in which its names mean nothing or what is farthest out.
func TestManyNodes(t *testing.T) {
	const large = 1 << 17
	for _, parent := range []int{-1, large} {
		l := []api.Sect{{Parent: parent, Items: []api.Item{field("a")}}}
		for n := range large {
			l = append(l, api.Sect{Parent: n, Name: "s"})
		}
		var args []api.Expr
		for n := range large {
			args = append(args, name("a"), name(numbered(n)), column(api.AgSum, "s", numbered(n)), column(api.AgSum, numbered(n), "a"))
		}
		l[large].Items = []api.Item{line("x", plus(args...))}
		inTime(t, "many nodes", func() {
			wantReads(t, l, 1, 0)
			wantUsers(t, l, 0, 1)
			wantRanks(t, l, []int{0, 1}, []int{0, 1})
		})
	}
}

// R1: Args within Args, as deep as parts may stand within one another.
func TestDeepArgs(t *testing.T) {
	x := name("a")
	for range 1 << 16 {
		x = api.Expr{Kind: api.ExNeg, Args: []api.Expr{x}}
	}
	inTime(t, "deep Args", func() {
		l := root(line("b", x), field("a"))
		wantReads(t, l, 0, 1)
		wantRanks(t, l, []int{1, 0}, []int{1, 0})
	})
}
