package seqtree

import (
	"math/bits"
	"math/rand/v2"
	"strconv"
	"testing"

	"excise/api"
)

// sound fails, if a link, a size or a weight is wrong, or the map does not know just the records that hang in the tree.
func sound(t *testing.T, x *Tree) {
	t.Helper()
	n := 0
	var walk func(r, above *record) int
	walk = func(r, above *record) int {
		if r == nil {
			return 0
		}
		n++
		if r.up != above {
			t.Fatalf("%d hangs elsewhere", r.id)
		}
		if x.records[r.id] != r {
			t.Fatalf("%d is not in the map", r.id)
		}
		l, g := walk(r.kids[left], r), walk(r.kids[right], r)
		if r.size != l+g+1 {
			t.Fatalf("%d has the size %d, with %d and %d", r.id, r.size, l, g)
		}
		if l+1 > 3*(g+1) || g+1 > 3*(l+1) {
			t.Fatalf("%d has %d and %d below it: %s", r.id, l, g, shape(x.root))
		}
		return l + g + 1
	}
	walk(x.root, nil)
	if n != len(x.records) {
		t.Fatalf("%d records in the map, %d in the tree", len(x.records), n)
	}
}

// shape is a tree as a text: an id between its sides, each in brackets.
func shape(r *record) string {
	if r == nil {
		return ""
	}
	text := strconv.FormatInt(r.id, 10)
	if r.kids[left] != nil {
		text = "(" + shape(r.kids[left]) + ")" + text
	}
	if r.kids[right] != nil {
		text += "(" + shape(r.kids[right]) + ")"
	}
	return text
}

// branch hangs two sides on a record.
func branch(l *record, id int64, r *record) *record {
	b := &record{id: id}
	b.kids = [2]*record{l, r}
	for _, kid := range b.kids {
		if kid != nil {
			kid.up = b
		}
	}
	b.resize()
	return b
}

func leaf(id int64) *record { return branch(nil, id, nil) }

// planted is a tree of this shape.
func planted(t *testing.T, root *record) *Tree {
	t.Helper()
	x := New()
	x.root = root
	for r := range x.inOrder {
		x.records[r.id] = r
	}
	sound(t, x)
	return x
}

// TestTurns: each turn that an Insert or a Delete may need, with the shape behind it.
func TestTurns(t *testing.T) {
	insert := func(at int, id int64) func(x *Tree) { return func(x *Tree) { x.Insert(at, id) } }
	take := func(id int64) func(x *Tree) { return func(x *Tree) { x.Delete(id) } }
	cases := []struct {
		name string
		root *record
		do   func(x *Tree)
		was  string
		want string
	}{
		{"insert, none", branch(nil, 1, leaf(2)), insert(2, 3), "1(2)", "1(2(3))"},
		{"insert, single left", branch(nil, 1, branch(nil, 2, leaf(3))), insert(3, 4), "1(2(3))", "(1)2(3(4))"},
		{"insert, single right", branch(branch(leaf(1), 2, nil), 3, nil), insert(0, 4), "((1)2)3", "((4)1)2(3)"},
		{"insert, double left", branch(nil, 1, branch(leaf(2), 3, nil)), insert(2, 4), "1((2)3)", "(1)2((4)3)"},
		{"insert, double right", branch(branch(nil, 1, leaf(2)), 3, nil), insert(1, 4), "(1(2))3", "(1(4))2(3)"},
		{"delete, single left", branch(leaf(1), 2, branch(leaf(3), 4, leaf(5))), take(1), "(1)2((3)4(5))", "(2(3))4(5)"},
		{"delete, single right", branch(branch(leaf(1), 2, leaf(3)), 4, leaf(5)), take(5), "((1)2(3))4(5)", "(1)2((3)4)"},
		{"delete, double left", branch(leaf(1), 2, branch(branch(leaf(3), 4, leaf(5)), 6, leaf(7))), take(1), "(1)2(((3)4(5))6(7))", "(2(3))4((5)6(7))"},
		{"delete, double right", branch(branch(leaf(1), 2, branch(leaf(3), 4, leaf(5))), 6, leaf(7)), take(7), "((1)2((3)4(5)))6(7)", "((1)2(3))4((5)6)"},
		{"delete, two sides", branch(leaf(1), 2, leaf(3)), take(2), "(1)2(3)", "(1)3"},
		{"delete, two sides, the next one far", branch(leaf(1), 2, branch(leaf(3), 4, leaf(5))), take(2), "(1)2((3)4(5))", "(1)3(4(5))"},
		{"delete, one side", branch(leaf(1), 2, branch(nil, 3, leaf(4))), take(3), "(1)2(3(4))", "(1)2(4)"},
		{"delete, the root of one side", branch(leaf(1), 2, nil), take(2), "(1)2", "1"},
	}
	for _, c := range cases {
		x := planted(t, c.root)
		if was := shape(x.root); was != c.was {
			t.Errorf("%s: was %s, not %s", c.name, was, c.was)
		}
		c.do(x)
		sound(t, x)
		if got := shape(x.root); got != c.want {
			t.Errorf("%s: %s, not %s", c.name, got, c.want)
		}
	}
}

func balanced(a, b int) bool { return a <= most*b && b <= most*a }

// TestOneTurnMends goes through all weights up to MaxRows that a node may have when an id came or went: behind one turn all is balanced.
func TestOneTurnMends(t *testing.T) {
	if most != 3 {
		t.Fatal("the document says 3 times")
	}
	for light := 1; light <= (api.MaxRows+2)/4; light++ {
		for heavy := most*light + 1; balanced(light, heavy-1) || balanced(light+1, heavy); heavy++ {
			for in := 1; in < heavy; in++ {
				if balanced(in, heavy-in) && !mended(light, in, heavy-in) {
					t.Fatal(light, in, heavy-in)
				}
			}
		}
	}
}

// mended tells whether all is balanced behind the turn of a light side and a heavy one of two parts.
func mended(light, in, out int) bool {
	if in < double*out {
		return balanced(light, in) && balanced(light+in, out)
	}
	for near := 1; near < in; near++ {
		far := in - near
		if balanced(near, far) && !(balanced(light, near) && balanced(far, out) && balanced(light+near, far+out)) {
			return false
		}
	}
	return true
}

// slant is a tree as deep as the weights let it be: at each node the side that the way names is as heavy as it may be.
func slant(n int, from int64, way func(depth int) int, depth int) *record {
	if n == 0 {
		return nil
	}
	great := (n + 1) * most / (most + 1)
	sizes := [2]int{n - great, great - 1}
	if way(depth) == left {
		sizes = [2]int{great - 1, n - great}
	}
	id := from + int64(sizes[left])
	return branch(slant(sizes[left], from, way, depth+1), id, slant(sizes[right], id+1, way, depth+1))
}

// TestSlanting puts an id to places all over the deepest trees, takes ids away, asks for them, and moves them.
func TestSlanting(t *testing.T) {
	ways := []func(int) int{
		func(int) int { return left },
		func(int) int { return right },
		func(depth int) int { return depth % 2 },
		func(depth int) int { return depth / 2 % 2 },
	}
	for _, n := range []int{1, 2, 3, 4, 7, 8, 30, 63, 64, 100, 255, 256, 700, 1023} {
		for _, way := range ways {
			x := planted(t, slant(n, 1, way, 0))
			if d := x.Depth(); d > 3*bits.Len(uint(n)) {
				t.Fatalf("Depth %d of %d", d, n)
			}
			gap := 1 + n/128
			for at := 0; at <= n; at += gap {
				step(t, x, n+1, 1, func(y *Tree) { y.Insert(at, api.MaxId) })
			}
			for at := 0; at < n; at += gap {
				id := int64(at + 1)
				step(t, x, n, 1, func(y *Tree) { y.Delete(id) })
				step(t, x, n, 1, func(y *Tree) { y.Index(id) })
				step(t, x, n, 1, func(y *Tree) { y.At(at) })
				step(t, x, n, 2, func(y *Tree) { y.Move(id, (at*7+n/2)%n) })
			}
		}
	}
}

// step does something to a clone, and holds its looks, its depth and its balance against their bounds.
func step(t *testing.T, x *Tree, n, times int, do func(y *Tree)) {
	t.Helper()
	y := x.Clone()
	do(y)
	if most := int64(24 * times * (1 + bits.Len(uint(n)))); y.Looked() > most || y.Looked() < 1 {
		t.Fatalf("looked at %d nodes of at most %d", y.Looked(), most)
	}
	if y.Depth() > 3*bits.Len(uint(y.Len())) {
		t.Fatalf("Depth %d of %d", y.Depth(), y.Len())
	}
	sound(t, y)
}

// TestSoundAlways checks the whole tree behind each of many steps, refused ones among them.
func TestSoundAlways(t *testing.T) {
	for seed := range uint64(30) {
		r := rand.New(rand.NewPCG(seed, 4))
		x := New()
		ids := int64(2 + seed*seed)
		for range 1000 {
			id := 1 + r.Int64N(ids)
			switch r.IntN(3) {
			case 0:
				x.Insert(r.IntN(x.Len()+2)-r.IntN(2), id)
			case 1:
				x.Move(id, r.IntN(x.Len()+1))
			default:
				if r.IntN(3) == 0 {
					x.Delete(id)
				}
			}
			sound(t, x)
		}
		sound(t, x.Clone())
	}
}
