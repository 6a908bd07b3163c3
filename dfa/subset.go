package dfa

import (
	"hackle/api"
	"hackle/class"
	"hackle/nfa"
	"hackle/octs"
)

// maker is the subsets of an automaton with choices, as far as they are found.
type maker struct {
	Dfa
	of      nfa.Nfa
	follow  []row          // of each place what follows it
	takes   []row          // of each class the places whose Sets have its bytes
	states  []row          // of each state its places
	numbers map[string]int // of each state but the first one, by the text of its places
	reach   row            // the places that come behind the state that is looked at, by any byte
}

func newMaker(n nfa.Nfa) *maker {
	m := &maker{of: n, numbers: map[string]int{}}
	m.Classes = class.Part(n.Sets...)
	for _, l := range n.Follow {
		m.follow = append(m.follow, rowOf(l))
	}
	for k := range m.Classes.N {
		m.takes = append(m.takes, m.takers(byte(class.First(m.Classes, k))))
	}
	return m
}

// takers is the places whose Sets have b.
func (m *maker) takers(b byte) row {
	var r row
	for p, s := range m.of.Sets {
		if octs.Has(s, b) {
			r.add(p)
		}
	}
	return r
}

// findAll finds the states, one by one, and what each leads to; false, if there are too many.
// The states that were found are the queue of those that are looked at.
func (m *maker) findAll() bool {
	m.add(row{}, m.of.Empty)
states:
	for at := 0; at < len(m.states); at++ {
		m.lookBehind(at)
		for k := range m.takes {
			some := m.reach.both(&m.takes[k])
			if some == (row{}) {
				continue
			}
			m.Next[at][k] = m.number(some)
			if len(m.states) > api.MaxStates {
				break states
			}
		}
	}
	return len(m.states) <= api.MaxStates
}

// add adds a state that leads nowhere as yet.
func (m *maker) add(places row, tag int) {
	next := make([]int, m.Classes.N)
	for k := range next {
		next[k] = none
	}
	m.states = append(m.states, places)
	m.Next = append(m.Next, next)
	m.Tag = append(m.Tag, tag)
}

// number is the state of some places, which is added, if it isn't there.
// The first state is in no map, so that it is none of those that are led to.
func (m *maker) number(places row) int {
	text := places.text()
	at, ok := m.numbers[text]
	if !ok {
		at = len(m.states)
		m.numbers[text] = at
		m.add(places, m.tag(places))
	}
	return at
}

// lookBehind puts into reach what comes behind the state at.
func (m *maker) lookBehind(at int) {
	clear(m.reach.words[:])
	if at == 0 {
		for _, p := range m.of.First {
			m.reach.add(p)
		}
	}
	for p := range m.follow {
		if m.states[at].has(p) {
			m.reach.join(&m.follow[p])
		}
	}
}

// tag is the least rule of those of the places that end; -1, if none does.
func (m *maker) tag(places row) int {
	least := none
	for p, rule := range m.of.Rules {
		if m.of.Ends[p] && places.has(p) && (least == none || rule < least) {
			least = rule
		}
	}
	return least
}
