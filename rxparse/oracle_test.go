package rxparse_test

import (
	"math/rand"
	"regexp"
	"strconv"
	"strings"

	"hackle/api"
	"hackle/octs"
)

// The trees of these tests are literals, so that nothing hangs on the calls that make trees.

func one(bs ...byte) api.Re  { return set(octs.Of(bs...)) }
func set(s api.Set) api.Re   { return api.Re{Kind: api.ReByte, Set: s} }
func cat(l ...api.Re) api.Re { return api.Re{Kind: api.ReCat, Sub: l} }
func alt(l ...api.Re) api.Re { return api.Re{Kind: api.ReAlt, Sub: l} }
func rep(re api.Re, lo, hi int) api.Re {
	return api.Re{Kind: api.ReRep, Sub: []api.Re{re}, Min: lo, Max: hi}
}

// nodes and deep are what layer 4 calls so.

func nodes(re api.Re) int {
	n := 1
	for _, sub := range re.Sub {
		n += nodes(sub)
	}
	return n
}

func deep(re api.Re) int {
	most := 0
	for _, sub := range re.Sub {
		most = max(most, deep(sub))
	}
	return most + 1
}

// signs is the bytes that must have a \ ahead to say themselves, and ^ and -.
const signs = `|*+?{}()[].<>/\^-`

// shape is how a part of a text looks when it is whole, and while it isn't.
type shape struct{ whole, begun *regexp.Regexp }

func shapeOf(whole, begun string) shape {
	return shape{regexp.MustCompile(`^` + whole + `$`), regexp.MustCompile(`^` + begun + `$`)}
}

const (
	hexShape    = `[0-9a-fA-F]`
	numberShape = `(0|[1-9][0-9]?)`
	escapeShape = `\\([nrt|*+?{}()\[\].<>/\\^-]|x` + hexShape + hexShape + `)`
	memberShape = `(` + escapeShape + `|[ -,.0-Z_-~])`
	pairsShape  = `\[\^?(` + memberShape + `(-` + memberShape + `)?)*`
	begunEscape = `(\\(x` + hexShape + `?)?)`
)

// shapes is, by the first byte, the parts that have several.
var shapes = map[byte]shape{
	'{':  shapeOf(`\{`+numberShape+`(,`+numberShape+`?)?\}`, `\{(`+numberShape+`(,`+numberShape+`?)?)?`),
	'<':  shapeOf(`<[a-z][a-z0-9]{0,23}>`, `<([a-z][a-z0-9]{0,23})?`),
	'\\': shapeOf(escapeShape, begunEscape),
	'[':  shapeOf(pairsShape+`\]`, pairsShape+`(`+memberShape+`-)?`+begunEscape+`?`),
}

// span has as its third group what stands behind one byte of a class, if two stand there.
var span = regexp.MustCompile(memberShape + `(-` + memberShape + `)?`)

// part is how many of s's bytes its first part has, if that is whole; else the place of the first byte with which it doesn't go on.
// (The places of falling pairs are told as they are whole.)
func part(s string) (int, bool) {
	look := shapes[s[0]]
	for n := 1; n <= len(s); n++ {
		if look.whole.MatchString(s[:n]) {
			return n, true
		}
		if !look.begun.MatchString(s[:n]) {
			return n - 1, false
		}
		if s[0] == '[' {
			if at := falling(s[:n]); at >= 0 {
				return at, false
			}
		}
	}
	return len(s), false
}

// falling is where in a class the second of two bytes begins that is less than the first; -1, if there is none.
func falling(s string) int {
	for _, at := range span.FindAllStringSubmatchIndex(s, -1) {
		if second := at[6] + 1; at[6] >= 0 {
			lo, _ := byteOf(s[at[0]:])
			if hi, _ := byteOf(s[second:]); hi < lo {
				return second
			}
		}
	}
	return -1
}

// byteOf is the byte of the member with which s begins, and how many bytes that has.
func byteOf(s string) (byte, int) {
	if s[0] != '\\' {
		return s[0], 1
	}
	if s[1] == 'x' {
		v, _ := strconv.ParseUint(s[2:4], 16, 8)
		return byte(v), 4
	}
	if i := strings.IndexByte("nrt", s[1]); i >= 0 {
		return "\n\r\t"[i], 2
	}
	return s[1], 2
}

func badBounds(s string) bool {
	l := strings.Split(strings.Trim(s, "{}"), ",")
	lo, _ := strconv.Atoi(l[0])
	hi, e := strconv.Atoi(l[len(l)-1])
	return lo > 64 || hi > 64 || e == nil && hi < lo
}

// expected is the place and the error of a text by the chapter's words, up to those of the tree.
// It knows no trees: parts are told by regular expressions, and of ( and ) is counted how many are open.
func expected(s string, names ...string) (int, api.Errno) {
	open, atom := 0, false // atom: may a repeat stand next?
	for at := 0; at < len(s); {
		n, whole := 1, true
		switch b := s[at]; b {
		case '|':
			atom = false
		case '(':
			if open == 30 {
				return at, api.ErrDeep
			}
			open, atom = open+1, false
		case ')':
			if open == 0 {
				return at, api.ErrSyntax
			}
			open, atom = open-1, true
		case '*', '+', '?', '{':
			if !atom {
				return at, api.ErrSyntax
			}
			atom = false
			if b == '{' {
				n, whole = part(s[at:])
				if whole && badBounds(s[at:at+n]) {
					return at, api.ErrSyntax
				}
			}
		case '<', '[', '\\':
			atom = true
			n, whole = part(s[at:])
			if whole && b == '<' && !contains(names, s[at+1:at+n-1]) {
				return at, api.ErrName
			}
		case '}', ']', '>', '/':
			return at, api.ErrSyntax
		default:
			if b < ' ' || b > '~' {
				return at, api.ErrSyntax
			}
			atom = true
		}
		at += n
		if !whole {
			return at, api.ErrSyntax
		}
	}
	if open > 0 {
		return len(s), api.ErrSyntax
	}
	return 0, api.OK
}

func contains(l []string, s string) bool {
	for _, t := range l {
		if t == s {
			return true
		}
	}
	return false
}

// writer makes texts with their trees at random.
type writer struct {
	*rand.Rand
	frags []api.Frag
}

func (w writer) alternatives(deep int) (string, api.Re) {
	text, re := w.row(deep)
	rows := []api.Re{re}
	for range max(0, w.Intn(5)-2) {
		s, re := w.row(deep)
		text += "|" + s
		rows = append(rows, re)
	}
	if len(rows) == 1 {
		return text, rows[0]
	}
	return text, alt(rows...)
}

func (w writer) row(deep int) (string, api.Re) {
	var items []api.Re
	text := ""
	for range w.Intn(4) {
		s, re := w.item(deep)
		text += s
		items = append(items, re)
	}
	switch len(items) {
	case 0:
		return "", api.Re{}
	case 1:
		return text, items[0]
	}
	return text, cat(items...)
}

func (w writer) item(deep int) (string, api.Re) {
	s, re := w.atom(deep)
	m := []int{w.Intn(65), w.Intn(10)}[w.Intn(2)]
	n := m + []int{w.Intn(65 - m), 0}[w.Intn(2)]
	lo, hi := strconv.Itoa(m), strconv.Itoa(n)
	switch w.Intn(10) {
	case 0:
		return s + "*", rep(re, 0, -1)
	case 1:
		return s + "+", rep(re, 1, -1)
	case 2:
		return s + "?", rep(re, 0, 1)
	case 3:
		return s + "{" + lo + "}", rep(re, m, m)
	case 4:
		return s + "{" + lo + ",}", rep(re, m, -1)
	case 5:
		return s + "{" + lo + "," + hi + "}", rep(re, m, n)
	}
	return s, re
}

func (w writer) atom(deep int) (string, api.Re) {
	switch kind := w.Intn(8); {
	case kind == 0:
		return ".", set(octs.Range(0, 255))
	case kind == 1:
		return w.class()
	case kind == 2 && len(w.frags) > 0:
		f := w.frags[w.Intn(len(w.frags))]
		return "<" + f.Name + ">", f.Re
	case kind <= 4 && deep > 0:
		s, re := w.alternatives(deep - 1)
		return "(" + s + ")", re
	case kind == 5:
		s, b := w.escape()
		return s, one(b)
	}
	for {
		if b := byte(' ' + w.Intn(95)); strings.IndexByte(signs[:len(signs)-2], b) < 0 {
			return string([]byte{b}), one(b)
		}
	}
}

func (w writer) escape() (string, byte) {
	switch i := w.Intn(6); i {
	case 0, 1, 2:
		return []string{`\n`, `\r`, `\t`}[i], []byte{10, 13, 9}[i]
	case 3:
		const digits = "0123456789abcdefABCDEF"
		s := `\x` + string([]byte{digits[w.Intn(22)], digits[w.Intn(22)]})
		b, _ := byteOf(s)
		return s, b
	}
	b := signs[w.Intn(len(signs))]
	return `\` + string([]byte{b}), b
}

func (w writer) member() (string, byte) {
	if w.Intn(3) == 0 {
		return w.escape()
	}
	for {
		if b := byte(' ' + w.Intn(95)); strings.IndexByte(`[]^-/\`, b) < 0 {
			return string([]byte{b}), b
		}
	}
}

func (w writer) class() (string, api.Re) {
	text, others := "[", w.Intn(2) == 0
	if others {
		text += "^"
	}
	var has [256]bool
	for range w.Intn(4) {
		s, lo := w.member()
		t, hi := w.member()
		if w.Intn(2) == 0 || hi < lo {
			text += s
			has[lo] = true
			continue
		}
		text += s + "-" + t
		for b := int(lo); b <= int(hi); b++ {
			has[b] = true
		}
	}
	var l []byte
	for b, in := range has {
		if in != others {
			l = append(l, byte(b))
		}
	}
	return text + "]", one(l...)
}
