package rxparse

import (
	"hackle/api"
	"hackle/digits"
	"hackle/octs"
	"hackle/rx"
)

// fault is what a parser panics with: a place and an error.
type fault struct {
	at int
	e  api.Errno
}

// parser reads a text from the left. Each of its readers takes what it reads, and panics where that can't go on.
// It makes its nodes itself, as layer 4's makers copy what they are handed: a fragment, of any size, each time anew.
type parser struct {
	text  string
	at    int // how many bytes are taken
	open  int // how many ( are open
	frags []api.Frag
}

// wrong is the fault of a byte that can't stand where the parser is, or of a text that ends there too soon.
func (p *parser) wrong() fault {
	return fault{p.at, api.ErrSyntax}
}

// next is the sign of the byte that stands next.
func (p *parser) next() sign {
	if p.at == len(p.text) {
		return none
	}
	return signOf(p.text[p.at])
}

// take takes a byte, whichever it is.
func (p *parser) take() byte {
	b := p.text[p.at]
	p.at++
	return b
}

// took takes the byte b, if it stands next.
func (p *parser) took(b byte) bool {
	stands := p.at < len(p.text) && p.text[p.at] == b
	if stands {
		p.at++
	}
	return stands
}

func (p *parser) must(b byte) {
	if !p.took(b) {
		panic(p.wrong())
	}
}

func (p *parser) whole() api.Re {
	re := p.alternatives()
	if p.at < len(p.text) {
		panic(p.wrong())
	}
	return re
}

func (p *parser) alternatives() api.Re {
	rows := []api.Re{p.row()}
	for p.took('|') {
		rows = append(rows, p.row())
	}
	if len(rows) == 1 {
		return rows[0]
	}
	return api.Re{Kind: api.ReAlt, Sub: rows}
}

func (p *parser) row() api.Re {
	var items []api.Re
	for !p.rowEnds() {
		items = append(items, p.item())
	}
	switch len(items) {
	case 0:
		return api.Re{}
	case 1:
		return items[0]
	}
	return api.Re{Kind: api.ReCat, Sub: items}
}

func (p *parser) rowEnds() bool {
	switch p.next() {
	case bar, parenShut:
		return true
	}
	return p.at == len(p.text)
}

func (p *parser) item() api.Re {
	atom := p.atom()
	lo, hi := 0, -1
	switch p.next() {
	case star:
		p.at++
	case plus:
		p.at++
		lo = 1
	case query:
		p.at++
		hi = 1
	case braceOpen:
		lo, hi = p.bounds()
	default:
		return atom
	}
	return api.Re{Kind: api.ReRep, Sub: []api.Re{atom}, Min: lo, Max: hi}
}

// bounds reads from { to }. The numbers are looked at only behind the }, so that a byte that can't stand is told first.
func (p *parser) bounds() (lo, hi int) {
	from := p.at
	p.must('{')
	lo = p.number()
	hi = lo
	if p.took(',') {
		hi = -1
		if p.next() != braceShut {
			hi = p.number()
		}
	}
	p.must('}')
	if lo > api.MaxRep || hi > api.MaxRep || hi != -1 && hi < lo {
		panic(fault{from, api.ErrSyntax})
	}
	return lo, hi
}

// number reads one or two digits, but behind a 0 none.
func (p *parser) number() int {
	n := p.digit(10)
	if n > 0 && p.value(10) >= 0 {
		n = 10*n + p.digit(10)
	}
	return n
}

// value is what the byte that stands next is as a digit; -1, if it is none.
func (p *parser) value(base int) int {
	if p.at == len(p.text) {
		return -1
	}
	return digits.Digit(p.text[p.at], base)
}

func (p *parser) digit(base int) int {
	v := p.value(base)
	if v < 0 {
		panic(p.wrong())
	}
	p.at++
	return v
}

func (p *parser) atom() api.Re {
	switch p.next() {
	case plain, caret, dash:
		return rx.Byte(octs.Of(p.take()))
	case backslash:
		return rx.Byte(octs.Of(p.escape()))
	case dot:
		p.at++
		return rx.Byte(octs.Not(api.Set{}))
	case bracketOpen:
		return rx.Byte(p.class())
	case parenOpen:
		return p.group()
	case angleOpen:
		return p.fragment()
	}
	panic(p.wrong())
}

func (p *parser) group() api.Re {
	if p.open == api.MaxDeep {
		panic(fault{p.at, api.ErrDeep})
	}
	p.must('(')
	p.open++
	re := p.alternatives()
	p.must(')')
	p.open--
	return re
}

func (p *parser) fragment() api.Re {
	from := p.at
	p.must('<')
	name := p.name()
	p.must('>')
	for _, frag := range p.frags {
		if frag.Name == name {
			return frag.Re
		}
	}
	panic(fault{from, api.ErrName})
}

// name reads a name: as each of its beginnings is one, it goes on while it is one.
func (p *parser) name() string {
	from := p.at
	for p.at < len(p.text) && MayName(p.text[from:p.at+1]) {
		p.at++
	}
	if p.at == from {
		panic(p.wrong())
	}
	return p.text[from:p.at]
}

func (p *parser) class() api.Set {
	p.must('[')
	others := p.took('^')
	var s api.Set
	for !p.took(']') {
		s = octs.Any(s, p.span())
	}
	if others {
		return octs.Not(s)
	}
	return s
}

// span reads one byte of a class, or two with a - between.
func (p *parser) span() api.Set {
	lo := p.member()
	if !p.took('-') {
		return octs.Of(lo)
	}
	from := p.at
	hi := p.member()
	if hi < lo {
		panic(fault{from, api.ErrSyntax})
	}
	return octs.Range(lo, hi)
}

func (p *parser) member() byte {
	switch p.next() {
	case none, bracketOpen, bracketShut, caret, dash, slash:
		panic(p.wrong())
	case backslash:
		return p.escape()
	}
	return p.take()
}

func (p *parser) escape() byte {
	p.must('\\')
	switch p.next() {
	case none:
		panic(p.wrong())
	case plain:
		return p.letter()
	}
	return p.take()
}

// letter reads what stands behind a \ and doesn't say itself there.
func (p *parser) letter() byte {
	switch {
	case p.took('n'):
		return '\n'
	case p.took('r'):
		return '\r'
	case p.took('t'):
		return '\t'
	case p.took('x'):
		high := p.digit(16)
		return byte(16*high + p.digit(16))
	}
	panic(p.wrong())
}
