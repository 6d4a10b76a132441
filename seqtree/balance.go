package seqtree

// With these two numbers one turn, single or double, mends a node below which one id came or went; with other whole ones it may not.
const (
	most   = 3 // how many times the other side's weight a side's may be
	double = 2 // from how many times the outer weight on a heavy side's inner weight needs a double turn
)

// size is how many nodes stand at and below r, which may be none.
func size(r *record) int {
	if r == nil {
		return 0
	}
	return r.size
}

// weight is one more than size, so that none has a weight, too.
func weight(r *record) int { return size(r) + 1 }

// depth is how many nodes the longest way down from r has.
func depth(r *record) int {
	if r == nil {
		return 0
	}
	return 1 + max(depth(r.kids[left]), depth(r.kids[right]))
}

// side is the side on which r hangs; left of the root.
func (r *record) side() int {
	if r.up != nil && r.up.kids[right] == r {
		return right
	}
	return left
}

// resize reckons the size from those of the two sides.
func (n *node) resize() { n.size = 1 + size(n.kids[left]) + size(n.kids[right]) }

// heavy is the side that weighs too much; false, if none does.
func (n *node) heavy() (int, bool) {
	l, r := weight(n.kids[left]), weight(n.kids[right])
	if l > most*r {
		return left, true
	}
	return right, r > most*l
}

// hang hangs r, or none, to a side of above; it is the root, if above is none.
func (t *Tree) hang(above *record, side int, r *record) {
	if r != nil {
		r.up = above
	}
	if above == nil {
		t.root = r
		return
	}
	above.kids[side] = r
}

// settle mends sizes and balance from r, below which an id came or went, up to the root.
func (t *Tree) settle(r *record) {
	for r != nil {
		t.look(r, r.kids[left], r.kids[right])
		r.resize()
		if side, is := r.heavy(); is {
			r = t.lighten(r, side)
		}
		r = r.up
	}
}

// lighten lifts the heavy side of r, by a single or a double turn, and tells what stands in r's place then.
func (t *Tree) lighten(r *record, heavy int) *record {
	kid := r.kids[heavy]
	inner, outer := kid.kids[1-heavy], kid.kids[heavy]
	t.look(r.up, inner, outer)
	if weight(inner) >= double*weight(outer) {
		t.look(inner.kids[left], inner.kids[right])
		t.turn(kid, 1-heavy)
	}
	return t.turn(r, heavy)
}

// turn puts r's kid on a side above r: the order stays as it is.
func (t *Tree) turn(r *record, side int) *record {
	kid := r.kids[side]
	t.hang(r.up, r.side(), kid)
	t.hang(r, side, kid.kids[1-side])
	t.hang(kid, 1-side, r)
	r.resize()
	kid.resize()
	return kid
}
