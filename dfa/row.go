package dfa

import "hackle/api"

const (
	wordBits = 64
	rowWords = (api.MaxNfa + wordBits - 1) / wordBits
)

// row is a row of places, a bit each: what follows many places is put together word by word, where each may be followed by all others.
type row struct {
	words [rowWords]uint64
}

// rowOf is the row of some places.
func rowOf(places []int) row {
	var r row
	for _, p := range places {
		r.add(p)
	}
	return r
}

func (r *row) add(p int) {
	r.words[p/wordBits] |= 1 << (p % wordBits)
}

// join adds the places of s.
func (r *row) join(s *row) {
	for i, w := range s.words {
		r.words[i] |= w
	}
}

func (r *row) has(p int) bool {
	return r.words[p/wordBits]>>(p%wordBits)&1 == 1
}

// both is the places that r and s have.
func (r *row) both(s *row) row {
	var l row
	for i, w := range s.words {
		l.words[i] = r.words[i] & w
	}
	return l
}

// text is the row as a text: rows with other places have another one.
func (r *row) text() string {
	var text [rowWords * 8]byte
	for i, w := range r.words {
		for j := range 8 {
			text[i*8+j] = byte(w >> (8 * j))
		}
	}
	return string(text[:])
}
