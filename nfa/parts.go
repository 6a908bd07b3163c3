package nfa

import "hackle/api"

// mostPlaces is the greatest number of places that is told.
const mostPlaces = 1_000_000

// places is how many places re has, which may be; so no step of the count comes near the greatest number.
func places(re api.Re) int {
	n := 0
	if re.Kind == api.ReByte {
		n = 1
	}
	for _, sub := range re.Sub {
		n += places(sub)
	}
	if re.Kind == api.ReRep {
		n *= copies(re)
	}
	return min(n, mostPlaces)
}

// copies is how many copies of its Sub stand instead of a ReRep.
func copies(re api.Re) int {
	if re.Max == -1 {
		return max(re.Min, 1)
	}
	return re.Max
}

// rim is the places at which a part begins and ends, each row rising.
type rim struct {
	first, ends []int
}

// part is a part of a tree written out.
type part struct {
	rim
	empty bool
}

// maker is an automaton as far as it is made: the places that are there have their Sets, and what follows them within the parts that are done.
type maker struct {
	Nfa
}

// add makes the places of the rule i.
func (m *maker) add(i int, re api.Re) {
	p := m.part(re)
	for len(m.Rules) < len(m.Sets) {
		m.Rules = append(m.Rules, i)
		m.Ends = append(m.Ends, false)
	}
	for _, e := range p.ends {
		m.Ends[e] = true
	}
	m.First = append(m.First, p.first...)
	if p.empty && m.Empty == -1 {
		m.Empty = i
	}
}

// part makes the places of re, behind those that are there. Its calls may nest, as re isn't deep.
func (m *maker) part(re api.Re) part {
	switch re.Kind {
	case api.ReByte:
		return m.place(re.Set)
	case api.ReCat:
		return m.inRow(m.parts(re.Sub), len(re.Sub))
	case api.ReAlt:
		return either(m.parts(re.Sub))
	case api.ReRep:
		return m.inRow(m.repeated(re), re.Min)
	}
	return part{empty: true}
}

func (m *maker) parts(subs []api.Re) []part {
	l := make([]part, 0, len(subs))
	for _, sub := range subs {
		l = append(l, m.part(sub))
	}
	return l
}

func (m *maker) place(s api.Set) part {
	p := len(m.Sets)
	m.Sets = append(m.Sets, s)
	m.Follow = append(m.Follow, nil)
	return part{rim: rim{[]int{p}, []int{p}}}
}

// either is one of some parts.
func either(parts []part) part {
	var all part
	for _, p := range parts {
		all.first = merged(all.first, p.first)
		all.ends = merged(all.ends, p.ends)
		all.empty = all.empty || p.empty
	}
	return all
}

// inRow is some parts, one behind the other, of which each from the one numbered must on may be left out with those behind it.
// It is put together from the last one on: so what is left out at once stands there as one part.
func (m *maker) inRow(parts []part, must int) part {
	rest := part{empty: true}
	for i := len(parts) - 1; i >= 0; i-- {
		rest = m.then(parts[i], rest)
		rest.empty = rest.empty || i >= must
	}
	return rest
}

// then is p with q directly behind it.
func (m *maker) then(p, q part) part {
	m.link(p.ends, q.first)
	both := part{rim{p.first, q.ends}, p.empty && q.empty}
	if p.empty {
		both.first = merged(p.first, q.first)
	}
	if q.empty {
		both.ends = merged(p.ends, q.ends)
	}
	return both
}

// link lets the places of a row follow each of those that end a part.
func (m *maker) link(ends, row []int) {
	for _, e := range ends {
		m.Follow[e] = merged(m.Follow[e], row)
	}
}

// repeated is the copies that stand instead of a ReRep.
// The first one is made of the Sub, the others of it, so that a Sub without places isn't gone along over and over.
// All are there before one is linked to another: till then what follows the first one's places lies within it.
func (m *maker) repeated(re api.Re) []part {
	n := copies(re)
	if n == 0 {
		return nil
	}
	from := len(m.Sets)
	first := m.part(re.Sub[0])
	to := len(m.Sets)
	l := []part{first}
	for len(l) < n {
		l = append(l, m.copied(first, from, to))
	}
	if re.Max == -1 {
		last := l[n-1]
		m.link(last.ends, last.first)
	}
	return l
}

// copied makes the places of p, which are those from one up to another, once more.
func (m *maker) copied(p part, from, to int) part {
	by := len(m.Sets) - from
	m.Sets = append(m.Sets, m.Sets[from:to]...)
	for _, row := range m.Follow[from:to] {
		m.Follow = append(m.Follow, shifted(row, by))
	}
	return part{rim{shifted(p.first, by), shifted(p.ends, by)}, p.empty}
}
