package aggtree

import (
	"slices"

	"excise/api"
)

// The sides of a node. The other side of one is 1 less it.
const (
	left  = 0
	right = 1
)

// row is an id with a value for each column.
type row struct {
	id     int64
	values []api.Value
}

// node is a row at its place in the shape, with what is kept of all rows at and below it.
type node struct {
	row
	up   *node
	kids [2]*node
	size int       // how many rows there are
	sums []api.Sum // a summary for each column
}

// look counts the nodes that there are among those.
func (t *Tree) look(nodes ...*node) {
	for _, n := range nodes {
		if n != nil {
			t.looked++
		}
	}
}

// find is the node at a place that is there.
func (t *Tree) find(at int) *node {
	n := t.root
	for {
		t.look(n, n.kids[left])
		ahead := size(n.kids[left])
		switch {
		case at < ahead:
			n = n.kids[left]
		case at > ahead:
			at -= ahead + 1
			n = n.kids[right]
		default:
			return n
		}
	}
}

// place is how many rows stand ahead of n's: those on its left side, and on that of each one above that has it on its right.
func (t *Tree) place(n *node) int {
	t.look(n, n.kids[left])
	at := size(n.kids[left])
	for n.up != nil {
		if n.side() == right {
			t.look(n.up.kids[left])
			at += size(n.up.kids[left]) + 1
		}
		n = n.up
		t.look(n)
	}
	return at
}

// put hangs a node with the row r, whose values are the tree's own, to the place at, which is from 0 to Len.
func (t *Tree) put(at int, r row) {
	var above *node
	side := left
	for n := t.root; n != nil; n = n.kids[side] {
		t.look(n, n.kids[left])
		above, side = n, left
		if ahead := size(n.kids[left]); at > ahead {
			at -= ahead + 1
			side = right
		}
	}
	n := &node{row: r, sums: make([]api.Sum, len(t.scales))}
	t.nodes[r.id] = n
	t.hang(above, side, n)
	t.settle(n)
}

// take takes n's row out of the tree.
func (t *Tree) take(n *node) {
	delete(t.nodes, n.id)
	if n.kids[left] != nil && n.kids[right] != nil {
		n = t.takeOver(n)
	}
	// One side at most is left, which can hang where n hung.
	kid := n.kids[left]
	if kid == nil {
		kid = n.kids[right]
	}
	t.look(kid)
	above := n.up
	t.hang(above, n.side(), kid)
	t.settle(above)
}

// takeOver gives n the row that is next behind its own, and tells the node that had it, which has no left side.
func (t *Tree) takeOver(n *node) *node {
	next := n.kids[right]
	t.look(n, next)
	for next.kids[left] != nil {
		next = next.kids[left]
		t.look(next)
	}
	n.row = next.row
	t.nodes[n.id] = n
	return next
}

// rows are copies of all rows, in order; none of a tree that no call made.
func (t *Tree) rows() []row {
	if !t.made() {
		return nil
	}
	rows := make([]row, 0, t.Len())
	for n := range t.inOrder {
		rows = append(rows, row{n.id, slices.Clone(n.values)})
	}
	return rows
}

// inOrder goes through the nodes by their places.
func (t *Tree) inOrder(yield func(*node) bool) {
	for n := outermost(t.root, left); n != nil; n = n.next() {
		if !yield(n) {
			return
		}
	}
}

// next is the node one place behind n: the first one on its right side, else the nearest one above that has it on its left.
func (n *node) next() *node {
	if n.kids[right] != nil {
		return outermost(n.kids[right], left)
	}
	for n.side() == right {
		n = n.up
	}
	return n.up
}

// outermost is the last node on the way from n to one side; none, if n is none.
func outermost(n *node, side int) *node {
	for n != nil && n.kids[side] != nil {
		n = n.kids[side]
	}
	return n
}

// copied is a copy of n and of what is below it, hung on above.
func (t *Tree) copied(n, above *node) *node {
	if n == nil {
		return nil
	}
	c := &node{row: row{n.id, slices.Clone(n.values)}, up: above, size: n.size, sums: slices.Clone(n.sums)}
	t.nodes[c.id] = c
	for side, kid := range n.kids {
		c.kids[side] = t.copied(kid, c)
	}
	return c
}
