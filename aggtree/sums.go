package aggtree

import (
	"excise/api"
	"excise/summary"
)

// sum is the summary of a column of all rows at and below n, which may be none.
func sum(n *node, column int) api.Sum {
	if n == nil {
		return summary.Join()
	}
	return n.sums[column]
}

// own is the summary of a column of n's row alone.
func (t *Tree) own(n *node, column int) api.Sum {
	return summary.Of(n.values[column], t.scales[column])
}

// mend reckons n's size and summaries from its own row and its two sides.
func (t *Tree) mend(n *node) {
	n.size = 1 + size(n.kids[left]) + size(n.kids[right])
	for column := range t.scales {
		t.mendColumn(n, column)
	}
}

func (t *Tree) mendColumn(n *node, column int) {
	n.sums[column] = summary.Join(sum(n.kids[left], column), t.own(n, column), sum(n.kids[right], column))
}

// mendUp reckons one column's summaries from n, whose value is another one now, up to the root.
func (t *Tree) mendUp(n *node, column int) {
	for n != nil {
		t.look(n, n.kids[left], n.kids[right])
		t.mendColumn(n, column)
		n = n.up
	}
}

// part is the summary of a column of the rows at and below n from the place from on, up to the one ahead of to; places count from n's first row on, and may be past its rows on both sides.
func (t *Tree) part(n *node, column, from, to int) api.Sum {
	t.look(n)
	if n == nil || to <= 0 || from >= n.size {
		return summary.Join()
	}
	if from <= 0 && to >= n.size {
		return n.sums[column]
	}
	s := t.part(n.kids[left], column, from, to)
	here := size(n.kids[left])
	if from <= here && here < to {
		s = summary.Join(s, t.own(n, column))
	}
	return summary.Join(s, t.part(n.kids[right], column, from-here-1, to-here-1))
}
