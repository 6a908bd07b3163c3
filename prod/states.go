package prod

import "hackle/dfa"

// states is two states at once: one of each automaton, or none.
// It is a key that is looked up at each step, and a small one is found far sooner.
type states struct {
	a, b int16
}

// start is the states to which the empty text comes.
func start(a, b dfa.Dfa) states {
	return states{firstOf(a), firstOf(b)}
}

// firstOf is the first state of d; none, if it has no states.
func firstOf(d dfa.Dfa) int16 {
	if len(d.Next) == 0 {
		return none
	}
	return 0
}

// tagOf is the tag of a state, or of none.
func tagOf(d dfa.Dfa, at int16) int {
	if at == none {
		return none
	}
	return d.Tag[at]
}

// nextOf is the state to which a state, or none, leads by x.
func nextOf(d dfa.Dfa, at int16, x byte) int16 {
	if at == none {
		return none
	}
	return int16(d.Next[at][d.Classes.Of[x]])
}

// onward is the first of some bytes by which a state leads to one; false, if none does.
func onward(d dfa.Dfa, at int16, bytes []byte) (byte, bool) {
	for _, x := range bytes {
		if nextOf(d, at, x) != none {
			return x, true
		}
	}
	return 0, false
}

// without is an automaton without states that has the classes of d: beside it d is walked alone.
func without(d dfa.Dfa) dfa.Dfa {
	return dfa.Dfa{Classes: d.Classes}
}
