package mini

import "hackle/dfa"

// leading is what leads to each state, by the numbers of parts.
type leading struct {
	classes int
	from    [][]int // of each state, and class, the states that lead to it by the class
}

func newLeading(d dfa.Dfa) leading {
	all := len(d.Next) + 1
	l := leading{classes: d.Classes.N, from: make([][]int, all*d.Classes.N)}
	for s := range all {
		for k := range l.classes {
			i := l.row(nextOf(d, s-1, k)+1, k)
			l.from[i] = append(l.from[i], s)
		}
	}
	return l
}

func (l leading) row(s, k int) int {
	return s*l.classes + k
}

// each hands look each state that leads to one of some states by the class k: each once, for it leads to no other one by it.
func (l leading) each(states []int, k int, look func(int)) {
	for _, s := range states {
		for _, from := range l.from[l.row(s, k)] {
			look(from)
		}
	}
}
