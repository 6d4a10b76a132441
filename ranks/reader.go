package ranks

import (
	"slices"

	"excise/api"
)

// A reader stands in a section, and knows what is read there. It says what scope.Find and scope.Kid say, by maps: these go through the list anew for each name.
type reader struct {
	sects  []api.Sect
	items  int            // of all sections
	firsts []int          // of each section the number of its first item
	kids   [][]int        // of each section, rising
	named  map[spot]int   // the section of a name that is a section's first kid of it
	own    map[spot]int   // the number of a section's first field or line of a name
	meant  map[string]int // the number of the item that a name means where the reader stands
	hidden []meaning      // what names meant in the sections around that one
}

// A spot is a name within a section.
type spot struct {
	section int
	name    string
}

// A meaning is a name with the number of the item that it means.
type meaning struct {
	name   string
	number int
}

// none stands for the number of what there is not.
const none = -1

// newReader is a reader that stands in no section.
func newReader(l []api.Sect) *reader {
	r := &reader{sects: l, kids: make([][]int, len(l)), named: map[spot]int{}, own: map[spot]int{}, meant: map[string]int{}}
	for section := range l {
		parent := l[section].Parent
		if hasSection(l, parent) {
			r.kids[parent] = append(r.kids[parent], section)
			keepFirst(r.named, spot{parent, l[section].Name}, section)
		}
		r.firsts = append(r.firsts, r.items)
		items := l[section].Items
		for i := range items {
			if canBeRead(items[i].Kind) {
				keepFirst(r.own, spot{section, items[i].Name}, r.items+i)
			}
		}
		r.items += len(items)
	}
	return r
}

func keepFirst(numbers map[spot]int, at spot, number int) {
	if _, ok := numbers[at]; !ok {
		numbers[at] = number
	}
}

// canBeRead tells whether items of a kind have values that expressions read.
func canBeRead(kind int) bool { return kind == api.ItField || kind == api.ItLine }

// enter goes into sections, told from within, and stands in the first one.
func (r *reader) enter(sections ...int) {
	for _, section := range slices.Backward(sections) {
		items := r.sects[section].Items
		// From behind, so that of items of one name the first one is meant.
		for i := len(items) - 1; i >= 0; i-- {
			if canBeRead(items[i].Kind) {
				name := items[i].Name
				r.hidden = append(r.hidden, meaning{name, r.find(name)})
				r.meant[name] = r.firsts[section] + i
			}
		}
	}
}

// leave goes out of sections again, till only so many meanings are hidden.
func (r *reader) leave(hidden int) {
	for _, was := range slices.Backward(r.hidden[hidden:]) {
		r.meant[was.name] = was.number
	}
	r.hidden = r.hidden[:hidden]
}

// find is the number of the item that a name means where the reader stands.
func (r *reader) find(name string) int {
	if number, ok := r.meant[name]; ok {
		return number
	}
	return none
}

// column is the number of the item whose column an aggregate in a section reads.
func (r *reader) column(section int, x *api.Expr) int {
	if kid, ok := r.named[spot{section, x.Section}]; ok {
		if number, ok := r.own[spot{kid, x.Name}]; ok {
			return number
		}
	}
	return none
}

// readBy is the number of the item that a node reads itself, in the section in which the reader stands.
func (r *reader) readBy(section int, x *api.Expr) int {
	switch x.Kind {
	case api.ExName:
		return r.find(x.Name)
	case api.ExAgg:
		if x.Op != api.AgRows {
			return r.column(section, x)
		}
	}
	return none
}

// reads are the numbers that an item of the section in which the reader stands reads, rising.
func (r *reader) reads(section, item int) []int {
	of := &r.sects[section].Items[item]
	if of.Kind == api.ItField {
		return nil
	}
	var found []int
	var gather func(x *api.Expr)
	gather = func(x *api.Expr) {
		if number := r.readBy(section, x); number != none {
			found = append(found, number)
		}
		for i := range x.Args {
			gather(&x.Args[i])
		}
	}
	gather(&of.Expr)
	slices.Sort(found)
	return slices.Compact(found)
}

// readsOfAll are the numbers that each item reads, rising. It goes from sections to their kids, so that what a section's names mean is put together once.
func readsOfAll(l []api.Sect) [][]int {
	r := newReader(l)
	all := make([][]int, r.items)
	entered := make([]bool, len(l))
	var gather func(section int)
	gather = func(section int) {
		if entered[section] {
			return
		}
		entered[section] = true
		hidden := len(r.hidden)
		r.enter(section)
		for item := range l[section].Items {
			all[r.firsts[section]+item] = r.reads(section, item)
		}
		for _, kid := range r.kids[section] {
			gather(kid)
		}
		r.leave(hidden)
	}
	for section := range l {
		if !entered[section] {
			way, circle := wayUp(l, section)
			// The last one on the way has all others within it; if it stands in a circle, these are around it, too.
			r.enter(way[circle:]...)
			gather(way[len(way)-1])
			r.leave(0)
		}
	}
	return all
}

// wayUp is a section and those around it, from within, each once; and at which place of these a circle begins, their number if none does.
func wayUp(l []api.Sect, section int) ([]int, int) {
	var way []int
	places := map[int]int{}
	for hasSection(l, section) {
		if circle, ok := places[section]; ok {
			return way, circle
		}
		places[section] = len(way)
		way = append(way, section)
		section = l[section].Parent
	}
	return way, len(way)
}
