package rules

import (
	"hackle/api"
	"hackle/digits"
	"hackle/rxparse"
)

// fault is what a cursor panics with: a place and an error.
type fault struct {
	at int
	e  api.Errno
}

// told is the place and the error of a fault that was caught. What else was caught isn't the text's fault, and goes on.
func told(x any) (int, api.Errno) {
	f, ok := x.(fault)
	if !ok {
		panic(x)
	}
	return f.at, f.e
}

// cursor goes along a text from the left. Each of its readers takes what it reads, and panics where that can't go on.
type cursor struct {
	text string
	at   int // how many bytes are taken
}

// wrong is the fault of a byte that can't stand where the cursor is, or of a text that ends there too soon.
func (c *cursor) wrong() fault {
	return fault{c.at, api.ErrSyntax}
}

// ahead is the byte that stands next; 0, which may stand nowhere, at the text's end.
func (c *cursor) ahead() byte {
	if c.at == len(c.text) {
		return 0
	}
	return c.text[c.at]
}

// took takes the byte b, if it stands next.
func (c *cursor) took(b byte) bool {
	stands := c.at < len(c.text) && c.text[c.at] == b
	if stands {
		c.at++
	}
	return stands
}

func (c *cursor) must(b byte) {
	if !c.took(b) {
		panic(c.wrong())
	}
}

// words takes the bytes of s.
func (c *cursor) words(s string) {
	for _, b := range []byte(s) {
		c.must(b)
	}
}

// mayStand tells whether the byte at a place may stand in a line, whatever stands around it.
func (c *cursor) mayStand(at int) bool {
	return at < len(c.text) && c.text[at] >= 32 && c.text[at] <= 126
}

// mustStand panics with the fault of a byte that may not stand in a line, and isn't its end.
func (c *cursor) mustStand(at int) {
	if at < len(c.text) && c.text[at] != '\n' && !c.mayStand(at) {
		panic(fault{at, api.ErrSyntax})
	}
}

// closing is the place of the first byte b that no \ takes; or that at which the line goes on no more, if there is none.
func (c *cursor) closing(b byte) int {
	at := c.at
	for c.mayStand(at) && c.text[at] != b {
		if c.text[at] == '\\' && c.mayStand(at+1) {
			at++
		}
		at++
	}
	return at
}

// name reads a name: as each of its beginnings is one, it goes on while it is one.
func (c *cursor) name() string {
	from := c.at
	for c.at < len(c.text) && rxparse.MayName(c.text[from:c.at+1]) {
		c.at++
	}
	if c.at == from {
		panic(c.wrong())
	}
	c.mustStand(c.at)
	return c.text[from:c.at]
}

// number reads a number from least to most.
func (c *cursor) number(least, most uint64) uint64 {
	from := c.at
	if !c.took('0') {
		for digits.Digit(c.ahead(), 10) >= 0 {
			c.at++
		}
	}
	if c.at == from {
		panic(c.wrong())
	}
	c.mustStand(c.at)
	n, e := digits.Parse(c.text[from:c.at], 10)
	if e != api.OK || n < least || n > most {
		panic(fault{from, api.ErrRange})
	}
	return n
}

// quoted reads a text between two ".
func (c *cursor) quoted() string {
	var bytes []byte
	c.must('"')
	for !c.took('"') {
		bytes = append(bytes, c.quotedByte())
	}
	return string(bytes)
}

func (c *cursor) quotedByte() byte {
	switch {
	case !c.mayStand(c.at):
		panic(c.wrong())
	case c.took('\\'):
		return c.escape()
	}
	return c.take()
}

// take takes a byte, whichever it is.
func (c *cursor) take() byte {
	b := c.text[c.at]
	c.at++
	return b
}

// escape reads what stands behind a \ .
func (c *cursor) escape() byte {
	switch c.ahead() {
	case '"', '\\':
		return c.take()
	case 'n':
		c.at++
		return '\n'
	case 'r':
		c.at++
		return '\r'
	case 't':
		c.at++
		return '\t'
	}
	c.must('x')
	high := c.digit()
	return byte(16*high + c.digit())
}

// digit reads a digit of base 16.
func (c *cursor) digit() int {
	v := digits.Digit(c.ahead(), 16)
	if v < 0 {
		panic(c.wrong())
	}
	c.at++
	return v
}
