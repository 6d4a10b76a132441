package aggtree

// With these two numbers one turn, single or double, mends a node below which one row came or went; with other whole ones it may not.
const (
	most   = 3 // how many times the other side's weight a side's may be
	double = 2 // from how many times the outer weight on a heavy side's inner weight needs a double turn
)

// size is how many nodes stand at and below n, which may be none.
func size(n *node) int {
	if n == nil {
		return 0
	}
	return n.size
}

// weight is one more than size, so that none has a weight, too.
func weight(n *node) int { return size(n) + 1 }

// depth is how many nodes the longest way down from n has.
func depth(n *node) int {
	if n == nil {
		return 0
	}
	return 1 + max(depth(n.kids[left]), depth(n.kids[right]))
}

// side is the side on which n hangs; left of the root.
func (n *node) side() int {
	if n.up != nil && n.up.kids[right] == n {
		return right
	}
	return left
}

// heavy is the side that weighs too much; false, if none does.
func (n *node) heavy() (int, bool) {
	l, r := weight(n.kids[left]), weight(n.kids[right])
	if l > most*r {
		return left, true
	}
	return right, r > most*l
}

// hang hangs n, or none, to a side of above; it is the root, if above is none.
func (t *Tree) hang(above *node, side int, n *node) {
	if n != nil {
		n.up = above
	}
	if above == nil {
		t.root = n
		return
	}
	above.kids[side] = n
}

// settle mends sizes, summaries and balance from n, at or below which a row came or went, up to the root.
func (t *Tree) settle(n *node) {
	for n != nil {
		t.look(n, n.kids[left], n.kids[right])
		t.mend(n)
		if side, is := n.heavy(); is {
			n = t.lighten(n, side)
		}
		n = n.up
	}
}

// lighten lifts the heavy side of n, by a single or a double turn, and tells what stands in n's place then.
func (t *Tree) lighten(n *node, heavy int) *node {
	kid := n.kids[heavy]
	inner, outer := kid.kids[1-heavy], kid.kids[heavy]
	t.look(n.up, inner, outer)
	if weight(inner) >= double*weight(outer) {
		t.look(inner.kids[left], inner.kids[right])
		t.turn(kid, 1-heavy)
	}
	return t.turn(n, heavy)
}

// turn puts n's kid on a side above n: the order stays as it is.
func (t *Tree) turn(n *node, side int) *node {
	kid := n.kids[side]
	t.hang(n.up, n.side(), kid)
	t.hang(n, side, kid.kids[1-side])
	t.hang(kid, 1-side, n)
	// All that was at and below n is at and below kid now, so that what was kept of it is kid's.
	kid.sums, n.sums = n.sums, kid.sums
	kid.size = n.size
	t.mend(n)
	return kid
}
