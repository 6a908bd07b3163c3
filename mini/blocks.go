package mini

import (
	"container/heap"
	"slices"

	"hackle/api"
	"hackle/dfa"
)

// parts is the states of an automaton in blocks, as far as they are known to be not alike.
// None is one of the states here: it has the number 0, and each state the one behind its own.
type parts struct {
	leading leading
	states  []int   // block by block
	place   []int   // of each state where it stands in states
	block   []int   // of each state its block
	spans   []span  // of each block where it stands in states
	touched []int   // the blocks of which some states are marked
	ahead   waiting // the states of the blocks that are to be looked at
}

// span is where a block stands; its first states, so many, are marked.
type span struct {
	from, to, marked int
}

// alike is the states of d, which may be, in lists of alike ones.
func alike(d dfa.Dfa) [][]int {
	p := newParts(d)
	p.splitAll()
	return p.lists()
}

// newParts is the states parted by their tags.
func newParts(d dfa.Dfa) *parts {
	all := len(d.Next) + 1
	p := &parts{leading: newLeading(d), place: make([]int, all), block: make([]int, all)}
	for tag := none; tag < api.MaxRules; tag++ {
		from := len(p.states)
		for s := range all {
			if tagOf(d, s-1) == tag {
				p.place[s] = len(p.states)
				p.states = append(p.states, s)
			}
		}
		if len(p.states) > from {
			p.addBlock(from, len(p.states))
		}
	}
	return p
}

// addBlock makes a block of what stands between two places, which is to be looked at.
// The states of a block change their places, so what waits is a copy: and it may be split meanwhile, for by the whole and by one of its halves states are parted as by both halves.
func (p *parts) addBlock(from, to int) {
	for _, s := range p.states[from:to] {
		p.block[s] = len(p.spans)
	}
	p.spans = append(p.spans, span{from: from, to: to})
	heap.Push(&p.ahead, slices.Clone(p.states[from:to]))
}

// splitAll looks at one block behind the other, and splits those of which some states alone lead to it by a class.
func (p *parts) splitAll() {
	for len(p.ahead) > 0 {
		block := heap.Pop(&p.ahead).([]int)
		for k := range p.leading.classes {
			p.leading.each(block, k, p.mark)
			p.splitMarked()
		}
	}
}

// mark puts a state, which isn't marked, behind those of its block that are.
func (p *parts) mark(s int) {
	b := p.block[s]
	where := &p.spans[b]
	if where.marked == 0 {
		p.touched = append(p.touched, b)
	}
	p.swap(p.place[s], where.from+where.marked)
	where.marked++
}

func (p *parts) swap(i, j int) {
	l := p.states
	l[i], l[j] = l[j], l[i]
	p.place[l[i]], p.place[l[j]] = i, j
}

// splitMarked splits each block of which some states are marked, but not all; none is marked then.
func (p *parts) splitMarked() {
	for _, b := range p.touched {
		s := p.spans[b]
		p.spans[b].marked = 0
		if middle := s.from + s.marked; middle < s.to {
			p.split(b, middle)
		}
	}
	p.touched = p.touched[:0]
}

// split makes the smaller part of a block a block of its own, so that no state often comes into one that is to be looked at.
func (p *parts) split(b, middle int) {
	s := &p.spans[b]
	from, to := s.from, middle
	if middle-s.from <= s.to-middle {
		s.from = middle
	} else {
		from, to = middle, s.to
		s.to = middle
	}
	p.addBlock(from, to)
}

// lists is the blocks' states, without none, by their own numbers: in rising lists, by their least ones.
func (p *parts) lists() [][]int {
	var lists [][]int
	list := slices.Repeat([]int{none}, len(p.spans))
	for s, b := range p.block[1:] {
		if list[b] == none {
			list[b] = len(lists)
			lists = append(lists, nil)
		}
		lists[list[b]] = append(lists[list[b]], s)
	}
	return lists
}
