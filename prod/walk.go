package prod

import (
	"slices"

	"hackle/dfa"
)

// walk goes along the states at once to which texts lead, the shortest texts first, of those the least first: so that each is found by its first text.
type walk struct {
	a, b  dfa.Dfa
	bytes []byte // of bytes that lead from anywhere to the same states at once the least, rising
	found []step
	seen  map[states]bool
}

// step is states at once, and how they were found: from which step, by which byte. Texts may be very long, so that they aren't made till they are told.
type step struct {
	states
	from int
	by   byte
}

// newWalk has found where the empty text comes to; where both are none no text is told.
func newWalk(a, b dfa.Dfa) *walk {
	w := &walk{a: a, b: b, bytes: leastBytes(a, b), seen: map[states]bool{{none, none}: true}}
	w.meet(step{states: start(a, b), from: none})
	return w
}

// leastBytes is of the bytes that have one class in a and one in b the least, rising.
func leastBytes(a, b dfa.Dfa) []byte {
	var l []byte
	seen := map[[2]uint8]bool{}
	for x, k := range a.Classes.Of {
		both := [2]uint8{k, b.Classes.Of[x]}
		if !seen[both] {
			seen[both] = true
			l = append(l, byte(x))
		}
	}
	return l
}

// first is the first step to states that are as is asked; -1, if there is none: then all are found.
func (w *walk) first(asked func(states) bool) int {
	for at := 0; at < len(w.found); at++ {
		s := w.found[at].states
		if asked(s) {
			return at
		}
		for _, x := range w.bytes {
			w.meet(step{states{nextOf(w.a, s.a, x), nextOf(w.b, s.b, x)}, at, x})
		}
	}
	return none
}

// meet adds a step, if its states weren't found before.
func (w *walk) meet(s step) {
	if !w.seen[s.states] {
		w.seen[s.states] = true
		w.found = append(w.found, s)
	}
}

// text is the bytes of a step and of those that led to it.
func (w *walk) text(at int) string {
	var bytes []byte
	for s := w.found[at]; s.from != none; s = w.found[s.from] {
		bytes = append(bytes, s.by)
	}
	slices.Reverse(bytes)
	return string(bytes)
}

// pairs is all that was found, each with its text: from the last one on, for what is found later has the longer text.
func (w *walk) pairs() []Pair {
	l := make([]Pair, len(w.found))
	for at, s := range w.found {
		l[at] = Pair{A: int(s.a), B: int(s.b)}
	}
	for at := range slices.Backward(l) {
		if l[at].Text == "" {
			w.tell(l, at)
		}
	}
	return l
}

// tell gives a pair its text, and those that led to it, as far as they have none, the beginnings of that text, so that theirs take no more memory.
func (w *walk) tell(l []Pair, at int) {
	for text := w.text(at); text != "" && l[at].Text == ""; text = text[:len(text)-1] {
		l[at].Text = text
		at = w.found[at].from
	}
}
