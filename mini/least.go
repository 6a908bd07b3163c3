package mini

import (
	"hackle/class"
	"hackle/dfa"
)

// least is the least automaton of t, which is trimmed.
// A list of alike states is found when its least one is, for trimmed states are numbered as they are found: so the lists stand as they are to be numbered.
func least(t dfa.Dfa) dfa.Dfa {
	lists := alike(t)
	numbers := make([]int, len(t.Next))
	for n, list := range lists {
		for _, at := range list {
			numbers[at] = n
		}
	}
	one := dfa.Dfa{Classes: t.Classes}
	for _, list := range lists {
		one.Next = append(one.Next, renumbered(t.Next[list[0]], numbers))
		one.Tag = append(one.Tag, t.Tag[list[0]])
	}
	return joined(one)
}

// renumbered is a row of states by their new numbers.
func renumbered(row, numbers []int) []int {
	l := make([]int, len(row))
	for k, to := range row {
		l[k] = none
		if to != none {
			l[k] = numbers[to]
		}
	}
	return l
}

// joined is d with those of its classes made one by which each state leads to the same one.
// Of those that are made one the first has the least byte, so that the new ones are numbered by their least bytes, too.
func joined(d dfa.Dfa) dfa.Dfa {
	var kept [256]uint8 // of each class its new number
	var first []int     // of each new class the first one of those that it is made of
	seen := map[string]uint8{}
	for k := range d.Classes.N {
		text := column(d, k)
		n, ok := seen[text]
		if !ok {
			n = uint8(len(first))
			seen[text] = n
			first = append(first, k)
		}
		kept[k] = n
	}
	c := class.Classes{N: len(first)}
	for b, k := range d.Classes.Of {
		c.Of[b] = kept[k]
	}
	return dfa.Dfa{Classes: c, Next: picked(d.Next, first), Tag: d.Tag}
}

// column is the states to which the class k leads, as a text: others have another one.
func column(d dfa.Dfa, k int) string {
	text := make([]byte, 0, 2*len(d.Next))
	for _, row := range d.Next {
		n := row[k] + 1
		text = append(text, byte(n>>8), byte(n))
	}
	return string(text)
}

// picked is of each row what stands at some places.
func picked(rows [][]int, places []int) [][]int {
	var l [][]int
	for _, row := range rows {
		some := make([]int, len(places))
		for i, p := range places {
			some[i] = row[p]
		}
		l = append(l, some)
	}
	return l
}
