// Package octs has sets of bytes: layer 1, see the document's chapter 1.
package octs

import (
	"iter"
	"math/bits"

	"hackle/api"
)

const wordBits = 64

// Of is the set of some bytes.
func Of(bs ...byte) api.Set {
	var s api.Set
	for _, b := range bs {
		s[b/wordBits] |= 1 << (b % wordBits)
	}
	return s
}

// Range is the set of the bytes from lo to hi; none, if hi is less.
func Range(lo, hi byte) api.Set {
	return Less(below(int(hi)+1), below(int(lo)))
}

// Has tells whether b is in s: just then s doesn't grow by it.
func Has(s api.Set, b byte) bool {
	return Any(s, Of(b)) == s
}

// Any has what one or both have.
func Any(a, b api.Set) api.Set {
	for i, word := range b {
		a[i] |= word
	}
	return a
}

// Both has what both have.
func Both(a, b api.Set) api.Set {
	for i, word := range b {
		a[i] &= word
	}
	return a
}

// Less has what a has and b hasn't.
func Less(a, b api.Set) api.Set {
	for i, word := range b {
		a[i] &^= word
	}
	return a
}

// Not has all that s hasn't.
func Not(s api.Set) api.Set {
	for i, word := range s {
		s[i] = ^word
	}
	return s
}

// Count is how many bytes s has.
func Count(s api.Set) int {
	n := 0
	for _, word := range s {
		n += bits.OnesCount64(word)
	}
	return n
}

// Next is the least byte of s that isn't below from; -1, if there is none.
func Next(s api.Set, from int) int {
	for b := range each(Less(s, below(from))) {
		return int(b)
	}
	return -1
}

// Bytes is all bytes of s, rising.
func Bytes(s api.Set) []byte {
	if s == (api.Set{}) {
		return nil
	}
	l := make([]byte, 0, Count(s))
	for b := range each(s) {
		l = append(l, b)
	}
	return l
}

// below has the bytes that are less than n, which may be any number.
func below(n int) api.Set {
	n = max(n, 0) // first of all: what is taken from it must not wrap round
	var s api.Set
	for i := range s {
		// A shift by all bits leaves 0, so that a full word comes out too.
		s[i] = 1<<min(max(n-i*wordBits, 0), wordBits) - 1
	}
	return s
}

// each tells the bytes of s, rising, word by word: what s hasn't costs no step.
func each(s api.Set) iter.Seq[byte] {
	return func(yield func(byte) bool) {
		for i, word := range s {
			for ; word != 0; word &= word - 1 {
				if !yield(byte(i*wordBits + bits.TrailingZeros64(word))) {
					return
				}
			}
		}
	}
}
