package dfa

import "slices"

// trimmed is d, which may be, trimmed.
// What isn't live leads to nothing that is: so the live ones are found in the same order, whether the others are gone along or not, and none of them is found, if the first state isn't live.
func (d Dfa) trimmed() Dfa {
	live := d.live()
	var kept []int
	numbers := slices.Repeat([]int{none}, len(d.Next))
	for _, at := range found(d.Next, d.first()) {
		if live[at] {
			numbers[at] = len(kept)
			kept = append(kept, at)
		}
	}
	t := Dfa{Classes: d.Classes}
	for _, at := range kept {
		t.Next = append(t.Next, renumbered(d.Next[at], numbers))
		t.Tag = append(t.Tag, d.Tag[at])
	}
	return t
}

// first is the first state, if there is one.
func (d Dfa) first() []int {
	if len(d.Next) == 0 {
		return nil
	}
	return []int{0}
}

// live tells of each state whether a tag is reached from it, by however many steps.
func (d Dfa) live() []bool {
	var tagged []int
	for at, tag := range d.Tag {
		if tag != none {
			tagged = append(tagged, at)
		}
	}
	live := make([]bool, len(d.Next))
	for _, at := range found(d.back(), tagged) {
		live[at] = true
	}
	return live
}

// back is of each state those that lead to it.
func (d Dfa) back() [][]int {
	l := make([][]int, len(d.Next))
	for at, row := range d.Next {
		for _, to := range row {
			if to != none {
				l[to] = append(l[to], at)
			}
		}
	}
	return l
}

// found is some states, and those that are reached from them, in the order in which they are found.
func found(next [][]int, from []int) []int {
	queue := slices.Clone(from)
	seen := make([]bool, len(next))
	for _, at := range queue {
		seen[at] = true
	}
	for i := 0; i < len(queue); i++ {
		for _, to := range next[queue[i]] {
			if to != none && !seen[to] {
				seen[to] = true
				queue = append(queue, to)
			}
		}
	}
	return queue
}

// renumbered is a row of states by their new numbers.
func renumbered(row, numbers []int) []int {
	l := make([]int, len(row))
	for k, to := range row {
		l[k] = none
		if to != none {
			l[k] = numbers[to]
		}
	}
	return l
}
