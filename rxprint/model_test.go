package rxprint_test

import (
	"fmt"
	"math/rand"
	"reflect"
	"strings"

	"hackle/api"
	"hackle/octs"
)

// The trees of these tests are literals, so that nothing hangs on the calls that make trees.

func one(bs ...byte) api.Re  { return set(octs.Of(bs...)) }
func set(s api.Set) api.Re   { return api.Re{Kind: api.ReByte, Set: s} }
func cat(l ...api.Re) api.Re { return api.Re{Kind: api.ReCat, Sub: l} }
func alt(l ...api.Re) api.Re { return api.Re{Kind: api.ReAlt, Sub: l} }
func star(re api.Re) api.Re  { return rep(re, 0, -1) }
func rep(re api.Re, lo, hi int) api.Re {
	return api.Re{Kind: api.ReRep, Sub: []api.Re{re}, Min: lo, Max: hi}
}

var a, b, c, void, empty, every = one('a'), one('b'), one('c'), one(), api.Re{}, set(octs.Range(0, 255))

// ab, cd are trees of two bytes.
var ab, cd = cat(a, b), cat(c, one('d'))

func nodes(re api.Re) int {
	n := 1
	for _, sub := range re.Sub {
		n += nodes(sub)
	}
	return n
}

func deep(re api.Re) int {
	most := 0
	for _, sub := range re.Sub {
		most = max(most, deep(sub))
	}
	return most + 1
}

// copied is re in new memory.
func copied(re api.Re) api.Re {
	subs := re.Sub
	re.Sub = nil
	for _, sub := range subs {
		re.Sub = append(re.Sub, copied(sub))
	}
	return re
}

func same(x, y api.Re) bool {
	return reflect.DeepEqual(copied(x), copied(y))
}

// chain is a tree of so many nodes, each within the one ahead.
func chain(n int) api.Re {
	re := a
	for range n - 1 {
		re = rep(re, 0, 1)
	}
	return re
}

// wide is a tree of so many nodes, all but one side by side.
func wide(n int) api.Re {
	l := make([]api.Re, n-1)
	for i := range l {
		l[i] = a
	}
	return cat(l...)
}

// doubled is a tree of 2 to the power n leaves that takes little memory, as its Subs are one list.
func doubled(n int) api.Re {
	re := a
	for range n {
		re = cat(re, re)
	}
	return re
}

// ring is no tree: it has itself as a Sub.
func ring(kind int) api.Re {
	l := make([]api.Re, 2)
	l[0], l[1] = api.Re{Kind: kind, Sub: l}, api.Re{Kind: kind, Sub: l}
	return l[0]
}

// sameModel, plainModel and writtenModel are the chapter's words, step by step, without a thought of what is quick.

func setModel(l ...api.Re) api.Re {
	var s api.Set
	for _, re := range l {
		for i := range s {
			s[i] |= re.Set[i]
		}
	}
	return set(s)
}

func plainModel(re api.Re) api.Re {
	var subs []api.Re
	for _, sub := range re.Sub {
		if p := plainModel(sub); p.Kind == re.Kind && (re.Kind == api.ReCat || re.Kind == api.ReAlt) {
			subs = append(subs, p.Sub...)
		} else {
			subs = append(subs, p)
		}
	}
	isVoid := func(re api.Re) bool { return same(re, void) }
	isByte := func(re api.Re) bool { return re.Kind == api.ReByte }
	switch re.Kind {
	case api.ReCat:
		subs = without(subs, func(re api.Re) bool { return re.Kind == api.ReEmpty })
		if len(without(subs, isVoid)) < len(subs) {
			return void
		}
		if len(subs) == 0 {
			return empty
		}
	case api.ReAlt:
		subs = without(subs, isVoid)
		subs = joinBytes(subs, isByte)
		subs = firsts(subs)
		if len(subs) == 0 {
			return void
		}
	case api.ReRep:
		return repModel(subs[0], re.Min, re.Max)
	default:
		return re
	}
	if len(subs) == 1 {
		return subs[0]
	}
	return api.Re{Kind: re.Kind, Sub: subs}
}

func without(l []api.Re, is func(api.Re) bool) []api.Re {
	var rest []api.Re
	for _, re := range l {
		if !is(re) {
			rest = append(rest, re)
		}
	}
	return rest
}

func joinBytes(l []api.Re, isByte func(api.Re) bool) []api.Re {
	for i, re := range l {
		if isByte(re) {
			behind := l[i+1:]
			rest := without(behind, isByte)
			var bytes []api.Re
			for _, re := range l {
				if isByte(re) {
					bytes = append(bytes, re)
				}
			}
			return append(append(append([]api.Re(nil), l[:i]...), setModel(bytes...)), rest...)
		}
	}
	return l
}

func firsts(l []api.Re) []api.Re {
	var rest []api.Re
	for i, re := range l {
		again := false
		for _, ahead := range l[:i] {
			again = again || same(ahead, re)
		}
		if !again {
			rest = append(rest, re)
		}
	}
	return rest
}

func repModel(sub api.Re, lo, hi int) api.Re {
	if hi == 0 {
		return empty
	}
	if sub.Kind == api.ReEmpty {
		return empty
	}
	if same(sub, void) {
		if lo == 0 {
			return empty
		}
		return sub
	}
	if lo == 1 && hi == 1 {
		return sub
	}
	if lo == 0 && hi == -1 && sub.Kind == api.ReRep && sub.Min == 0 && sub.Max == -1 {
		return sub
	}
	return rep(sub, lo, hi)
}

// isPlain tells whether a tree is one on which no rule of the chapter has anything to do.
func isPlain(re api.Re) bool {
	bytes := 0
	for i, sub := range re.Sub {
		if !isPlain(sub) || same(sub, void) || sub.Kind == re.Kind && re.Kind != api.ReRep {
			return false
		}
		if sub.Kind == api.ReEmpty && re.Kind != api.ReAlt {
			return false
		}
		if sub.Kind == api.ReByte {
			bytes++
		}
		for _, ahead := range re.Sub[:i] {
			if re.Kind == api.ReAlt && same(ahead, sub) {
				return false
			}
		}
	}
	switch re.Kind {
	case api.ReAlt:
		return bytes <= 1
	case api.ReRep:
		inner := re.Sub[0]
		twice := re.Min == 0 && re.Max == -1 && inner.Kind == api.ReRep && inner.Min == 0 && inner.Max == -1
		return !twice && re.Max != 0 && !(re.Min == 1 && re.Max == 1)
	}
	return true
}

// byteModel is a byte alone, or in a class, as the chapter lists them.
func byteModel(x int, marked string) string {
	switch {
	case x == 10:
		return `\n`
	case x == 13:
		return `\r`
	case x == 9:
		return `\t`
	case x < 32 || x > 126:
		return fmt.Sprintf(`\x%02x`, x)
	case strings.Contains(marked, string(rune(x))):
		return `\` + string(rune(x))
	}
	return string(rune(x))
}

func classModel(s api.Set) string {
	in := func(x int) bool { return x >= 0 && x < 256 && s[x/64]>>(x%64)&1 == 1 }
	text, alone, count := "", "", 0
	for x := range 256 {
		if in(x) {
			count++
			alone = byteModel(x, `|*+?{}()[].<>/\`)
		}
		switch byte := byteModel(x, `^-[]/\`); {
		case in(x) && !in(x-1):
			text += byte
		case in(x) && !in(x+1):
			text += "-" + byte
		}
	}
	switch count {
	case 1:
		return alone
	case 256:
		return "."
	}
	return "[" + text + "]"
}

func writtenModel(re api.Re) string {
	part := func(sub api.Re, kinds ...int) string {
		for _, kind := range kinds {
			if sub.Kind == kind {
				return "(" + writtenModel(sub) + ")"
			}
		}
		return writtenModel(sub)
	}
	text := ""
	switch re.Kind {
	case api.ReEmpty:
		return "()"
	case api.ReByte:
		return classModel(re.Set)
	case api.ReCat:
		for _, sub := range re.Sub {
			text += part(sub, api.ReCat, api.ReAlt)
		}
		return text
	case api.ReAlt:
		for i, sub := range re.Sub {
			if i > 0 {
				text += "|"
			}
			text += part(sub, api.ReAlt)
		}
		return text
	}
	text = part(re.Sub[0], api.ReCat, api.ReAlt, api.ReRep)
	switch lo, hi := re.Min, re.Max; {
	case lo == 0 && hi == -1:
		return text + "*"
	case lo == 1 && hi == -1:
		return text + "+"
	case lo == 0 && hi == 1:
		return text + "?"
	case lo == hi:
		return text + fmt.Sprintf("{%d}", lo)
	case hi == -1:
		return text + fmt.Sprintf("{%d,}", lo)
	default:
		return text + fmt.Sprintf("{%d,%d}", lo, hi)
	}
}

// shown is a tree as a failed test tells it.
func shown(re api.Re) string {
	text := writtenModel(re)
	return text[:min(len(text), 300)]
}

// maker makes trees at random, of few bytes, so that alike ones, and those of no byte, come often.
type maker struct{ *rand.Rand }

func (m maker) tree(deep int) api.Re {
	kind := m.Intn(8)
	if deep == 1 {
		kind = m.Intn(3)
	}
	switch kind {
	case 0:
		return empty
	case 1, 2:
		return one([]byte([]string{"", "", "a", "a", "b", "ab", "bc"}[m.Intn(7)])...)
	case 3, 4:
		return cat(m.row(deep - 1)...)
	case 5, 6:
		return alt(m.row(deep - 1)...)
	}
	bounds := [][2]int{{0, -1}, {0, -1}, {0, 0}, {1, 1}, {0, 1}, {1, -1}, {2, -1}, {2, 2}, {0, 3}, {1, 2}}[m.Intn(10)]
	return rep(m.tree(deep-1), bounds[0], bounds[1])
}

func (m maker) row(deep int) []api.Re {
	l := []api.Re{m.tree(deep), m.tree(deep)}
	for range m.Intn(4) {
		if m.Intn(3) == 0 {
			l = append(l, l[m.Intn(len(l))])
		} else {
			l = append(l, m.tree(deep))
		}
	}
	return l
}

func (m maker) anySet() api.Set {
	var s api.Set
	for range m.Intn(5) {
		lo := m.Intn(256)
		s = octs.Any(s, octs.Range(byte(lo), byte(min(255, lo+m.Intn(8)))))
	}
	if m.Intn(3) == 0 {
		return octs.Not(s)
	}
	return s
}

// trees is n trees at random that may be.
func trees(seed int64, n int) []api.Re {
	m := maker{rand.New(rand.NewSource(seed))}
	var l []api.Re
	for len(l) < n {
		if re := m.tree(1 + m.Intn(6)); nodes(re) <= api.MaxNodes {
			l = append(l, re)
		}
	}
	return l
}

// mayNotBe is trees that layer 4 refuses.
func mayNotBe() []api.Re {
	l := []api.Re{
		{Kind: -1}, {Kind: 5}, {Kind: 9}, {Kind: 1 << 62}, {Kind: -1 << 63},
		{Set: octs.Of(0)}, {Min: 1}, {Max: -1}, {Sub: []api.Re{a}},
		{Kind: api.ReByte, Min: 1}, {Kind: api.ReByte, Max: 1}, {Kind: api.ReByte, Sub: []api.Re{a}},
		cat(), cat(a), alt(), alt(a),
		{Kind: api.ReCat, Sub: []api.Re{a, b}, Set: octs.Of(255)}, {Kind: api.ReCat, Sub: []api.Re{a, b}, Min: 1},
		{Kind: api.ReAlt, Sub: []api.Re{a, b}, Max: 1}, {Kind: api.ReAlt, Sub: []api.Re{a, b}, Set: octs.Of(1)},
		{Kind: api.ReRep}, {Kind: api.ReRep, Sub: []api.Re{a, b}, Max: 1}, {Kind: api.ReRep, Sub: []api.Re{a}, Set: octs.Of(1), Max: 1},
		rep(a, -1, 1), rep(a, -1, -1), rep(a, 2, 1), rep(a, 0, -2), rep(a, 65, -1), rep(a, 65, 65), rep(a, 0, 65),
		wide(301), chain(31), chain(1 << 16), doubled(62), ring(api.ReCat), ring(api.ReAlt), ring(api.ReRep),
	}
	for _, re := range l[:30] { // within trees that would be made plain without it
		l = append(l, cat(void, re), alt(a, re), rep(re, 0, 0), rep(rep(re, 1, 1), 0, -1), cat(a, alt(b, star(re))))
	}
	return l
}
