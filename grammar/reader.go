package grammar

import "excise/api"

// A reader takes a text's words one by one. Where none of the words that may come next does, it gives up by a panic, which read catches, and stays at that word.
type reader struct {
	words  []api.Token
	taken  int
	length int // of the text, where words that end too early go wrong
	spots  []api.Spot
	depths []int // of the sections, in their order in the text
}

// next is the word that comes next; behind the last one a word that is no other.
func (r *reader) next() api.Token {
	if r.taken < len(r.words) {
		return r.words[r.taken]
	}
	return api.Token{At: r.length}
}

// place is where the next word stands.
func (r *reader) place() int { return r.next().At }

func (r *reader) giveUp() { panic(api.ErrSyntax) }

// atEnd makes sure that no word is left.
func (r *reader) atEnd() {
	if r.taken < len(r.words) {
		r.giveUp()
	}
}

// skip takes the next word, if it is this one, and tells whether it was.
func (r *reader) skip(word string) bool {
	// Numbers and texts begin with a digit or a quote, as no word of the language does.
	if r.next().Text != word {
		return false
	}
	r.taken++
	return true
}

// take takes these words.
func (r *reader) take(words ...string) {
	for _, word := range words {
		if !r.skip(word) {
			r.giveUp()
		}
	}
}

// name takes a name.
func (r *reader) name() string {
	word := r.next()
	if !isName(word.Text) {
		r.giveUp()
	}
	r.taken++
	return word.Text
}

// named takes the name of what stands at a place of the definition, which is a spot.
func (r *reader) named(p api.Place) string {
	at := r.place()
	name := r.name()
	r.spots = append(r.spots, api.Spot{Place: p, At: at})
	return name
}

// number takes a number.
func (r *reader) number() api.Dec {
	word := r.next()
	if word.Kind != api.TkNum {
		r.giveUp()
	}
	r.taken++
	return word.Value.Num
}

// whole takes a number that stands for itself: the language calls it int.
func (r *reader) whole() int {
	word := r.next()
	n := word.Value.Num
	if word.Kind != api.TkNum || n.Scale != 0 || n.N != (api.Nat{n.N[0]}) || n.N[0] > maxInt {
		r.giveUp()
	}
	r.taken++
	return int(n.N[0])
}

// dec takes a number that may have a sign.
func (r *reader) dec() api.Dec {
	minus := r.skip("-")
	d := r.number()
	d.Neg = minus && d.N != api.Nat{}
	return d
}

// policy takes a policy's word.
func (r *reader) policy() int {
	p := policy(r.next().Text)
	if p == 0 {
		r.giveUp()
	}
	r.taken++
	return p
}
