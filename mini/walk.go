package mini

import (
	"slices"

	"hackle/class"
	"hackle/dfa"
)

// walk goes along the pairs of states to which texts lead from two states, the shortest texts first, of those the least first.
// Two states that pairs link already make no pair more: a text that tells them apart tells apart one of these pairs, too, and the text that leads there comes first.
type walk struct {
	dfa   dfa.Dfa
	pairs []pair
	link  []int // of each state, counted from none on, itself, or one that it is linked with
}

// pair is two states, and how they were come to: from which pair, by which class.
type pair struct {
	i, j    int
	from, k int
}

func newWalk(d dfa.Dfa) *walk {
	w := &walk{dfa: d}
	for s := range len(d.Next) + 1 {
		w.link = append(w.link, s)
	}
	return w
}

func (w *walk) tellApart(i, j int) (string, bool) {
	w.meet(pair{i: i, j: j, from: none})
	for at := 0; at < len(w.pairs); at++ {
		p := w.pairs[at]
		if tagOf(w.dfa, p.i) != tagOf(w.dfa, p.j) {
			return w.text(at), true
		}
		for k := range w.dfa.Classes.N {
			w.meet(pair{nextOf(w.dfa, p.i, k), nextOf(w.dfa, p.j, k), at, k})
		}
	}
	return "", false
}

// meet adds a pair, if its states aren't linked, and links them.
func (w *walk) meet(p pair) {
	i, j := w.end(p.i+1), w.end(p.j+1)
	if i != j {
		w.link[i] = j
		w.pairs = append(w.pairs, p)
	}
}

// end is the state at which the links from s end; the way to it is made shorter.
func (w *walk) end(s int) int {
	for w.link[s] != s {
		w.link[s] = w.link[w.link[s]]
		s = w.link[s]
	}
	return s
}

// text is the text by which a pair was come to: of each class its least byte.
func (w *walk) text(at int) string {
	var bytes []byte
	for p := w.pairs[at]; p.from != none; p = w.pairs[p.from] {
		bytes = append(bytes, byte(class.First(w.dfa.Classes, p.k)))
	}
	slices.Reverse(bytes)
	return string(bytes)
}
