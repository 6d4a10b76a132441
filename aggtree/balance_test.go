package aggtree

import (
	"math/bits"
	"math/rand/v2"
	"strconv"
	"testing"

	"excise/api"
	"excise/decimal"
	"excise/summary"
)

// of is n hundredths.
func of(n int64) api.Value {
	d, _ := decimal.OfInt(n, 2)
	return api.Value{Kind: api.VNum, Num: d}
}

// sound fails, if a link, a size, a weight or a summary is wrong, or the map does not know just the nodes that hang in the tree.
func sound(t *testing.T, x *Tree) {
	t.Helper()
	count := 0
	var walk func(n, above *node) int
	walk = func(n, above *node) int {
		if n == nil {
			return 0
		}
		count++
		if n.up != above {
			t.Fatalf("%d hangs elsewhere", n.id)
		}
		if x.nodes[n.id] != n {
			t.Fatalf("%d is not in the map", n.id)
		}
		l, r := walk(n.kids[left], n), walk(n.kids[right], n)
		if n.size != l+r+1 {
			t.Fatalf("%d has the size %d, with %d and %d", n.id, n.size, l, r)
		}
		if l+1 > 3*(r+1) || r+1 > 3*(l+1) {
			t.Fatalf("%d has %d and %d below it: %s", n.id, l, r, shape(x.root))
		}
		summed(t, x, n)
		return n.size
	}
	walk(x.root, nil)
	if count != len(x.nodes) {
		t.Fatalf("%d nodes in the map, %d in the tree", len(x.nodes), count)
	}
}

// summed fails, if n's summaries are not those of its row and of its sides.
func summed(t *testing.T, x *Tree, n *node) {
	t.Helper()
	if len(n.sums) != len(x.scales) || len(n.values) != len(x.scales) {
		t.Fatalf("%d has %d values and %d summaries", n.id, len(n.values), len(n.sums))
	}
	for column, scale := range x.scales {
		want := summary.Of(n.values[column], scale)
		if kid := n.kids[left]; kid != nil {
			want = summary.Join(kid.sums[column], want)
		}
		if kid := n.kids[right]; kid != nil {
			want = summary.Join(want, kid.sums[column])
		}
		if n.sums[column] != want {
			t.Fatalf("%d knows %v, not %v", n.id, n.sums[column], want)
		}
	}
}

// shape is a tree as a text: an id between its sides, each in brackets.
func shape(n *node) string {
	if n == nil {
		return ""
	}
	text := strconv.FormatInt(n.id, 10)
	if n.kids[left] != nil {
		text = "(" + shape(n.kids[left]) + ")" + text
	}
	if n.kids[right] != nil {
		text += "(" + shape(n.kids[right]) + ")"
	}
	return text
}

// branch hangs two sides on a node.
func branch(l *node, id int64, r *node) *node {
	b := &node{row: row{id, []api.Value{of(id)}}, kids: [2]*node{l, r}, sums: make([]api.Sum, 1)}
	for _, kid := range b.kids {
		if kid != nil {
			kid.up = b
		}
	}
	return b
}

func leaf(id int64) *node { return branch(nil, id, nil) }

// planted is a tree of this shape, with a column of the scale 2.
func planted(t *testing.T, root *node) *Tree {
	t.Helper()
	x, _ := New(2)
	x.root = root
	var walk func(n *node)
	walk = func(n *node) {
		if n == nil {
			return
		}
		walk(n.kids[left])
		walk(n.kids[right])
		x.mend(n)
		x.nodes[n.id] = n
	}
	walk(root)
	sound(t, x)
	return x
}

// TestTurns: each turn that an Insert or a Delete may need, with the shape behind it.
func TestTurns(t *testing.T) {
	insert := func(at int, id int64) func(x *Tree) { return func(x *Tree) { x.Insert(at, id, of(id)) } }
	take := func(id int64) func(x *Tree) { return func(x *Tree) { x.Delete(id) } }
	cases := []struct {
		name string
		root *node
		do   func(x *Tree)
		was  string
		want string
	}{
		{"insert, none", branch(nil, 1, leaf(2)), insert(2, 3), "1(2)", "1(2(3))"},
		{"insert, single left", branch(nil, 1, branch(nil, 2, leaf(3))), insert(3, 4), "1(2(3))", "(1)2(3(4))"},
		{"insert, single right", branch(branch(leaf(1), 2, nil), 3, nil), insert(0, 4), "((1)2)3", "((4)1)2(3)"},
		{"insert, double left", branch(nil, 1, branch(leaf(2), 3, nil)), insert(2, 4), "1((2)3)", "(1)2((4)3)"},
		{"insert, double right", branch(branch(nil, 1, leaf(2)), 3, nil), insert(1, 4), "(1(2))3", "(1(4))2(3)"},
		{"delete, single left", branch(leaf(1), 2, branch(leaf(3), 4, leaf(5))), take(1), "(1)2((3)4(5))", "(2(3))4(5)"},
		{"delete, single right", branch(branch(leaf(1), 2, leaf(3)), 4, leaf(5)), take(5), "((1)2(3))4(5)", "(1)2((3)4)"},
		{"delete, double left", branch(leaf(1), 2, branch(branch(leaf(3), 4, leaf(5)), 6, leaf(7))), take(1), "(1)2(((3)4(5))6(7))", "(2(3))4((5)6(7))"},
		{"delete, double right", branch(branch(leaf(1), 2, branch(leaf(3), 4, leaf(5))), 6, leaf(7)), take(7), "((1)2((3)4(5)))6(7)", "((1)2(3))4((5)6)"},
		{"delete, two sides", branch(leaf(1), 2, leaf(3)), take(2), "(1)2(3)", "(1)3"},
		{"delete, two sides, the next one far", branch(leaf(1), 2, branch(leaf(3), 4, leaf(5))), take(2), "(1)2((3)4(5))", "(1)3(4(5))"},
		{"delete, one side", branch(leaf(1), 2, branch(nil, 3, leaf(4))), take(3), "(1)2(3(4))", "(1)2(4)"},
		{"delete, the root of one side", branch(leaf(1), 2, nil), take(2), "(1)2", "1"},
	}
	for _, c := range cases {
		x := planted(t, c.root)
		if was := shape(x.root); was != c.was {
			t.Errorf("%s: was %s, not %s", c.name, was, c.was)
		}
		c.do(x)
		sound(t, x)
		if got := shape(x.root); got != c.want {
			t.Errorf("%s: %s, not %s", c.name, got, c.want)
		}
	}
}

func balanced(a, b int) bool { return a <= most*b && b <= most*a }

// TestOneTurnMends goes through all weights up to MaxRows that a node may have when a row came or went: behind one turn all is balanced.
func TestOneTurnMends(t *testing.T) {
	if most != 3 {
		t.Fatal("the document says 3 times")
	}
	for light := 1; light <= (api.MaxRows+2)/4; light++ {
		for heavy := most*light + 1; balanced(light, heavy-1) || balanced(light+1, heavy); heavy++ {
			for in := 1; in < heavy; in++ {
				if balanced(in, heavy-in) && !mended(light, in, heavy-in) {
					t.Fatal(light, in, heavy-in)
				}
			}
		}
	}
}

// mended tells whether all is balanced behind the turn of a light side and a heavy one of two parts.
func mended(light, in, out int) bool {
	if in < double*out {
		return balanced(light, in) && balanced(light+in, out)
	}
	for near := 1; near < in; near++ {
		far := in - near
		if balanced(near, far) && !(balanced(light, near) && balanced(far, out) && balanced(light+near, far+out)) {
			return false
		}
	}
	return true
}

// slant is a tree as deep as the weights let it be: at each node the side that the way names is as heavy as it may be.
func slant(n int, from int64, way func(depth int) int, depth int) *node {
	if n == 0 {
		return nil
	}
	great := (n + 1) * most / (most + 1)
	sizes := [2]int{n - great, great - 1}
	if way(depth) == left {
		sizes = [2]int{great - 1, n - great}
	}
	id := from + int64(sizes[left])
	return branch(slant(sizes[left], from, way, depth+1), id, slant(sizes[right], id+1, way, depth+1))
}

// TestSlanting puts a row to places all over the deepest trees, takes rows away, sets them, asks for them and for parts, and moves them.
func TestSlanting(t *testing.T) {
	ways := []func(int) int{
		func(int) int { return left },
		func(int) int { return right },
		func(depth int) int { return depth % 2 },
		func(depth int) int { return depth / 2 % 2 },
	}
	for _, n := range []int{1, 2, 3, 4, 7, 8, 30, 63, 64, 100, 255, 256, 700, 1023} {
		for _, way := range ways {
			x := planted(t, slant(n, 1, way, 0))
			if d := x.Depth(); d > 3*bits.Len(uint(n)) {
				t.Fatalf("Depth %d of %d", d, n)
			}
			gap := 1 + n/40
			for at := 0; at <= n; at += gap {
				step(t, x, n+1, 1, func(y *Tree) { y.Insert(at, api.MaxId, of(5)) })
				asked(t, x, func() { x.Query(0, at/3, at) })
				asked(t, x, func() { x.Query(0, at, n-(n-at)/3) })
			}
			for at := 0; at < n; at += gap {
				id := int64(at + 1)
				step(t, x, n, 1, func(y *Tree) { y.Delete(id) })
				step(t, x, n, 1, func(y *Tree) { y.Set(id, 0, of(-7)) })
				asked(t, x, func() { x.Get(id, 0) })
				asked(t, x, func() { x.Index(id) })
				asked(t, x, func() { x.At(at) })
				step(t, x, n, 2, func(y *Tree) { y.Move(id, (at*7+n/2)%n) })
			}
		}
	}
}

// step does something to a clone, and holds its looks, its depth and its balance against their bounds.
func step(t *testing.T, x *Tree, n, times int, do func(y *Tree)) {
	t.Helper()
	y := x.Clone()
	do(y)
	looked := y.Looked() - x.Looked()
	if most := int64(24 * times * (1 + bits.Len(uint(n)))); looked > most || looked < 1 {
		t.Fatalf("looked at %d nodes of at most %d", looked, most)
	}
	if y.Depth() > 3*bits.Len(uint(y.Len())) {
		t.Fatalf("Depth %d of %d", y.Depth(), y.Len())
	}
	sound(t, y)
}

// asked asks for something, and holds the looks against their bound.
func asked(t *testing.T, x *Tree, ask func()) {
	t.Helper()
	was := x.Looked()
	ask()
	if n := x.Looked() - was; n > int64(24*(1+bits.Len(uint(x.Len())))) || n < 1 {
		t.Fatalf("looked at %d nodes of %d", n, x.Len())
	}
}

// TestSoundAlways checks the whole tree behind each of many steps, refused ones among them.
func TestSoundAlways(t *testing.T) {
	for seed := range uint64(30) {
		r := rand.New(rand.NewPCG(seed, 6))
		x, _ := New(2, 0)
		ids := int64(2 + seed*seed)
		for range 600 {
			id := 1 + r.Int64N(ids)
			switch r.IntN(4) {
			case 0:
				x.Insert(r.IntN(x.Len()+2)-r.IntN(2), id, of(r.Int64N(100)), api.Value{})
			case 1:
				x.Move(id, r.IntN(x.Len()+1))
			case 2:
				x.Set(id, r.IntN(4)-1, of(r.Int64N(100)-50))
			default:
				if r.IntN(3) == 0 {
					x.Delete(id)
				}
			}
			sound(t, x)
		}
		sound(t, x.Clone())
	}
}
