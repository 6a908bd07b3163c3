package rx

import (
	"hackle/api"
	"hackle/octs"
)

const kinds = api.ReRep + 1

// node is a node, with what its kind says of it.
type node api.Re

// texts is what is so of a tree's texts: is there none, is the empty one among them, and with which bytes do the others begin and end?
// Where there is none, no byte is told, so that what is put together of several need not ask.
type texts struct {
	void, empty bool
	first, last api.Set
}

// forms is, by kinds, whether a node is of its kind's form.
func forms() [kinds]func(node) bool {
	return [kinds]func(node) bool{
		api.ReEmpty: node.emptyMay,
		api.ReByte:  node.byteMay,
		api.ReCat:   node.rowMay,
		api.ReAlt:   node.rowMay,
		api.ReRep:   node.repMay,
	}
}

// tellers is, by kinds, what is so of a node's texts, by what is so of its Subs'.
func tellers() [kinds]func(node, []texts) texts {
	return [kinds]func(node, []texts) texts{
		api.ReEmpty: node.emptyTexts,
		api.ReByte:  node.byteTexts,
		api.ReCat:   node.catTexts,
		api.ReAlt:   node.altTexts,
		api.ReRep:   node.repTexts,
	}
}

func (n node) may() bool {
	return n.Kind >= 0 && n.Kind < kinds && forms()[n.Kind](n)
}

func (n node) emptyMay() bool {
	return n.Set == api.Set{} && n.byteMay()
}

func (n node) byteMay() bool {
	return len(n.Sub) == 0 && n.Min == 0 && n.Max == 0
}

func (n node) rowMay() bool {
	return n.Set == api.Set{} && len(n.Sub) >= 2 && n.Min == 0 && n.Max == 0
}

func (n node) repMay() bool {
	return n.Set == api.Set{} && len(n.Sub) == 1 &&
		n.Min >= 0 && n.Min <= api.MaxRep &&
		(n.Max == -1 || n.Max >= n.Min && n.Max <= api.MaxRep)
}

// textsOf is what is so of re's texts; nothing, if it may not be.
func textsOf(re api.Re) texts {
	if !May(re) {
		return texts{}
	}
	return node(re).texts()
}

// texts may nest its calls, as a tree that may be isn't deep.
func (n node) texts() texts {
	var subs []texts
	for _, sub := range n.Sub {
		subs = append(subs, node(sub).texts())
	}
	return tellers()[n.Kind](n, subs)
}

func (n node) emptyTexts([]texts) texts {
	return texts{empty: true}
}

func (n node) byteTexts([]texts) texts {
	return texts{void: n.Set == api.Set{}, first: n.Set, last: n.Set}
}

func (n node) catTexts(subs []texts) texts {
	all := texts{empty: true}
	for _, sub := range subs {
		all = all.then(sub)
	}
	return all
}

func (n node) altTexts(subs []texts) texts {
	all := texts{void: true}
	for _, sub := range subs {
		all = all.or(sub)
	}
	return all
}

func (n node) repTexts(subs []texts) texts {
	switch {
	case n.Max == 0:
		return texts{empty: true}
	case n.Min == 0:
		return subs[0].or(texts{empty: true})
	}
	return subs[0]
}

// then is what is so of t's texts with o's behind.
func (t texts) then(o texts) texts {
	if t.void || o.void {
		return texts{void: true}
	}
	both := texts{empty: t.empty && o.empty, first: t.first, last: o.last}
	if t.empty {
		both.first = octs.Any(t.first, o.first)
	}
	if o.empty {
		both.last = octs.Any(t.last, o.last)
	}
	return both
}

// or is what is so of t's texts and o's.
func (t texts) or(o texts) texts {
	return texts{
		void:  t.void && o.void,
		empty: t.empty || o.empty,
		first: octs.Any(t.first, o.first),
		last:  octs.Any(t.last, o.last),
	}
}
