package seqtree

// The sides of a node. The other side of one is 1 less it.
const (
	left  = 0
	right = 1
)

// node is the shape's part of a record: what it hangs on, and what hangs on it.
type node struct {
	up   *record
	kids [2]*record
	size int // how many nodes stand at and below it
}

// record is an id at its node.
type record struct {
	node
	id int64
}

// look counts the records that there are among those.
func (t *Tree) look(records ...*record) {
	for _, r := range records {
		if r != nil {
			t.looked++
		}
	}
}

// find is the record at a place that is there.
func (t *Tree) find(at int) *record {
	r := t.root
	for {
		t.look(r, r.kids[left])
		ahead := size(r.kids[left])
		switch {
		case at < ahead:
			r = r.kids[left]
		case at > ahead:
			at -= ahead + 1
			r = r.kids[right]
		default:
			return r
		}
	}
}

// place is how many ids stand ahead of r's: those on its left side, and on that of each one above that has it on its right.
func (t *Tree) place(r *record) int {
	t.look(r, r.kids[left])
	at := size(r.kids[left])
	for r.up != nil {
		if r.side() == right {
			t.look(r.up.kids[left])
			at += size(r.up.kids[left]) + 1
		}
		r = r.up
		t.look(r)
	}
	return at
}

// put hangs a new record to the place at, which is from 0 to Len.
func (t *Tree) put(at int, id int64) {
	var above *record
	side := left
	for r := t.root; r != nil; r = r.kids[side] {
		t.look(r, r.kids[left])
		above, side = r, left
		if ahead := size(r.kids[left]); at > ahead {
			at -= ahead + 1
			side = right
		}
	}
	r := &record{node: node{size: 1}, id: id}
	t.look(r)
	t.records[id] = r
	t.hang(above, side, r)
	t.settle(above)
}

// take takes r's id out of the tree.
func (t *Tree) take(r *record) {
	delete(t.records, r.id)
	if r.kids[left] != nil && r.kids[right] != nil {
		r = t.takeOver(r)
	}
	// One side at most is left, which can hang where r hung.
	kid := r.kids[left]
	if kid == nil {
		kid = r.kids[right]
	}
	t.look(kid)
	above := r.up
	t.hang(above, r.side(), kid)
	t.settle(above)
}

// takeOver gives r the id that is next behind its own, and tells the record that had it, which has no left side.
func (t *Tree) takeOver(r *record) *record {
	next := r.kids[right]
	t.look(r, next)
	for next.kids[left] != nil {
		next = next.kids[left]
		t.look(next)
	}
	r.id = next.id
	t.records[r.id] = r
	return next
}

// ids are all ids, in order; none of a tree that no call made.
func (t *Tree) ids() []int64 {
	if !t.made() {
		return nil
	}
	ids := make([]int64, 0, t.Len())
	for r := range t.inOrder {
		ids = append(ids, r.id)
	}
	return ids
}

// inOrder goes through the records by their places.
func (t *Tree) inOrder(yield func(*record) bool) {
	for r := outermost(t.root, left); r != nil; r = r.next() {
		if !yield(r) {
			return
		}
	}
}

// next is the record one place behind r: the first one on its right side, else the nearest one above that has it on its left.
func (r *record) next() *record {
	if r.kids[right] != nil {
		return outermost(r.kids[right], left)
	}
	for r.side() == right {
		r = r.up
	}
	return r.up
}

// outermost is the last record on the way from r to one side; none, if r is none.
func outermost(r *record, side int) *record {
	for r != nil && r.kids[side] != nil {
		r = r.kids[side]
	}
	return r
}

// copied is a copy of r and of what is below it, hung on above.
func (t *Tree) copied(r, above *record) *record {
	if r == nil {
		return nil
	}
	c := &record{node: node{up: above, size: r.size}, id: r.id}
	t.records[c.id] = c
	for side, kid := range r.kids {
		c.kids[side] = t.copied(kid, c)
	}
	return c
}
