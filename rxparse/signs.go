package rxparse

import "strings"

// sign is what a byte may say in a text of an expression.
type sign int

// The signs; those from bar on stand in the order of their bytes in signBytes.
const (
	none  sign = iota // no byte of a text, or the text's end
	plain             // says itself, but behind a \
	bar
	star
	plus
	query
	braceOpen
	braceShut
	parenOpen
	parenShut
	bracketOpen
	bracketShut
	dot
	angleOpen
	angleShut
	slash
	backslash
	caret
	dash
)

const signBytes = `|*+?{}()[].<>/\^-`

// signOf is what b may say.
func signOf(b byte) sign {
	if b < 32 || b > 126 {
		return none
	}
	if i := strings.IndexByte(signBytes, b); i >= 0 {
		return bar + sign(i)
	}
	return plain
}
