package table

import "hackle/api"

// states is a set of a table's states, as bits: very many sets are kept at once.
type states [(api.MaxStates + 63) / 64]uint64

func (s *states) add(at int) {
	s[at/64] |= 1 << (at % 64)
}

func (s *states) has(at int) bool {
	return s[at/64]>>(at%64)&1 == 1
}
