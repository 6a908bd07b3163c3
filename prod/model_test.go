package prod_test

import (
	"cmp"
	"fmt"
	"maps"
	"math/rand"
	"slices"
	"strings"
	"testing"

	"hackle/api"
	"hackle/class"
	"hackle/dfa"
	"hackle/mini"
	"hackle/nfa"
	"hackle/octs"
	"hackle/prod"
	"hackle/rxparse"
)

// parsed is the trees of some texts.
func parsed(t *testing.T, texts ...string) []api.Re {
	t.Helper()
	var l []api.Re
	for _, s := range texts {
		re, at, e := rxparse.Parse(s, nil)
		if e != api.OK {
			t.Fatalf("Parse(%q): %d, %d", s, at, e)
		}
		l = append(l, re)
	}
	return l
}

// ofTexts is the subsets of the rules of some texts.
func ofTexts(t *testing.T, texts ...string) dfa.Dfa {
	t.Helper()
	d, e := tried(parsed(t, texts...))
	if e != api.OK {
		t.Fatalf("%v: %d", texts, e)
	}
	return d
}

// tried is the subsets of rules, if there are no more than may be.
func tried(rules []api.Re) (dfa.Dfa, api.Errno) {
	n, e := nfa.Build(rules)
	if e != api.OK {
		return dfa.Dfa{}, e
	}
	return dfa.Subset(n)
}

// shown is automata as a failed test tells them.
func shown(l ...dfa.Dfa) string {
	var text string
	for _, d := range l {
		text += fmt.Sprintf("[%d classes, next %v, tag %v] ", d.Classes.N, d.Next, d.Tag)
	}
	return text[:min(len(text), 900)]
}

// told is pairs as a failed test tells them.
func told(l ...prod.Pair) string {
	var text string
	for _, p := range l {
		text += fmt.Sprintf("%d %d %q, ", p.A, p.B, p.Text)
	}
	return text[:min(len(text), 900)]
}

// The model is the chapter's words, step by step, without a thought of what is quick.

// byText is the order of texts: the shorter one first, of one length the lesser one.
func byText(s, z string) int {
	return cmp.Or(cmp.Compare(len(s), len(z)), strings.Compare(s, z))
}

func firstModel(d dfa.Dfa) int {
	return min(len(d.Next), 1) - 1
}

func stepModel(d dfa.Dfa, at int, b byte) int {
	if at < 0 {
		return -1
	}
	return d.Next[at][d.Classes.Of[b]]
}

func tagModel(d dfa.Dfa, at int) int {
	if at < 0 {
		return -1
	}
	return d.Tag[at]
}

// allBytes is all that a text may have.
func allBytes() []byte {
	var l []byte
	for b := range 256 {
		l = append(l, byte(b))
	}
	return l
}

// someBytes is of all bytes that aren't told apart by any of the automata the least one.
func someBytes(l ...dfa.Dfa) []byte {
	alike := func(x, y byte) bool {
		return !slices.ContainsFunc(l, func(d dfa.Dfa) bool { return d.Classes.Of[x] != d.Classes.Of[y] })
	}
	var some []byte
	for _, b := range allBytes() {
		if !slices.ContainsFunc(some, func(x byte) bool { return alike(x, b) }) {
			some = append(some, b)
		}
	}
	return some
}

// walkModel makes the texts of states at once lesser and lesser, by however many rounds, and puts them in order then.
func walkModel(a, b dfa.Dfa, bytes []byte) []prod.Pair {
	type states struct{ a, b int }
	texts := map[states]string{{firstModel(a), firstModel(b)}: ""}
	for more := true; more; {
		more = false
		for _, s := range slices.SortedFunc(maps.Keys(texts), func(s, z states) int { return cmp.Or(s.b-z.b, z.a-s.a) }) {
			for _, x := range bytes {
				to, text := states{stepModel(a, s.a, x), stepModel(b, s.b, x)}, texts[s]+string([]byte{x})
				if old, ok := texts[to]; !ok || byText(text, old) < 0 {
					texts[to], more = text, true
				}
			}
		}
	}
	var l []prod.Pair
	for s, text := range texts {
		if s != (states{-1, -1}) {
			l = append(l, prod.Pair{A: s.a, B: s.b, Text: text})
		}
	}
	slices.SortFunc(l, func(p, q prod.Pair) int { return byText(p.Text, q.Text) })
	return l
}

// What is asked of a text's tags.
func bothTake(x, y int) bool   { return x >= 0 && y >= 0 }
func tagsDiffer(x, y int) bool { return x != y }
func firstAlone(x, y int) bool { return x >= 0 && y < 0 }

// askModel is the first text, of those to which pairs are come, whose tags are as is asked.
func askModel(a, b dfa.Dfa, l []prod.Pair, asked func(x, y int) bool) (string, bool) {
	for _, p := range l {
		if asked(tagModel(a, p.A), tagModel(b, p.B)) {
			return p.Text, true
		}
	}
	return "", false
}

// overModel asks of all states that texts come to.
func overModel(d dfa.Dfa, rule int, s api.Set) (string, byte, bool) {
	if rule < 0 {
		return "", 0, false
	}
	for _, p := range walkModel(d, dfa.Dfa{}, someBytes(d)) {
		for b := range 256 {
			if to := stepModel(d, p.A, byte(b)); d.Tag[p.A] == rule && octs.Has(s, byte(b)) && to >= 0 {
				if _, ok := mini.Apart(d, to, -1); ok {
					return p.Text, byte(b), true
				}
			}
		}
	}
	return "", 0, false
}

// chance makes trees and automata at random.
type chance struct{ *rand.Rand }

func newChance(seed int64) chance {
	return chance{rand.New(rand.NewSource(seed))}
}

// expression is the text of an expression, of which parentheses hold each part together.
func (c chance) expression(deep int) string {
	kind := c.Intn(8)
	if deep <= 1 {
		kind = c.Intn(4)
	}
	sub := func() string { return c.expression(deep - 1) }
	switch kind {
	case 0:
		return "()"
	case 1, 2, 3:
		return []string{"[]", "a", "a", "b", "b", "[ab]", "[bc]", "."}[c.Intn(8)]
	case 4, 5:
		return "(" + sub() + sub() + ")"
	case 6:
		return "(" + sub() + "|" + sub() + ")"
	}
	return "(" + sub() + ")" + []string{"*", "*", "+", "?", "{2}", "{1,3}", "{0,2}", "{2,}", "{0}"}[c.Intn(9)]
}

func (c chance) expressions() []string {
	l := []string{c.expression(5)}
	for c.Intn(3) > 0 && len(l) < 6 {
		l = append(l, c.expression(1+c.Intn(5)))
	}
	return l
}

func (c chance) set() api.Set {
	return octs.Of([]byte([]string{"", "a", "b", "ab", "ab", "bc", "\x00\x3f\x40\xff", "\xff", "\x00a\x80"}[c.Intn(9)])...)
}

func (c chance) classes() class.Classes {
	var sets []api.Set
	for range c.Intn(4) {
		sets = append(sets, c.set())
	}
	return class.Part(sets...)
}

// dfa is an automaton that may be.
func (c chance) dfa(most int) dfa.Dfa {
	d := dfa.Dfa{Classes: c.classes()}
	all, leads, tags := c.Intn(most), 1+c.Intn(3), 1+c.Intn(5)
	for range all {
		row := slices.Repeat([]int{-1}, d.Classes.N)
		for k := range row {
			if c.Intn(3) < leads {
				row[k] = c.Intn(all)
			}
		}
		d.Next, d.Tag = append(d.Next, row), append(d.Tag, c.tag(tags))
	}
	return d
}

// tag is none, or one of three, of which none is the likelier, the greater outOf is.
func (c chance) tag(outOf int) int {
	if c.Intn(outOf) > 0 {
		return -1
	}
	return []int{0, 0, 1, 39}[c.Intn(4)]
}

// ownRows is rows in new memory.
func ownRows(rows [][]int) [][]int {
	var l [][]int
	for _, row := range rows {
		l = append(l, slices.Clone(row))
	}
	return l
}

// near is an automaton that tags texts as d does, written otherwise, but for at most one change.
func (c chance) near(d dfa.Dfa) dfa.Dfa {
	n := dfa.Dfa{Classes: d.Classes, Next: ownRows(d.Next), Tag: slices.Clone(d.Tag)}
	if c.Intn(3) == 0 {
		m := mini.Min(d)
		n = dfa.Dfa{Classes: m.Classes, Next: ownRows(m.Next), Tag: slices.Clone(m.Tag)}
	}
	n = c.turned(n)
	if at := len(n.Next); at > 0 && c.Intn(2) == 0 {
		at = c.Intn(at)
		if c.Intn(2) == 0 {
			n.Tag[at] = c.tag(2)
		} else {
			n.Next[at][c.Intn(n.Classes.N)] = c.Intn(len(n.Next)+1) - 1
		}
	}
	return n
}

// turned is d with its states but the first one in another order.
func (c chance) turned(d dfa.Dfa) dfa.Dfa {
	t := dfa.Dfa{Classes: d.Classes}
	if len(d.Next) == 0 {
		return t
	}
	order := []int{0} // of each new state the old one
	for _, at := range c.Perm(len(d.Next) - 1) {
		order = append(order, at+1)
	}
	for _, at := range order {
		row := slices.Clone(d.Next[at])
		for k, to := range row {
			row[k] = slices.Index(order, to)
		}
		t.Next, t.Tag = append(t.Next, row), append(t.Tag, d.Tag[at])
	}
	return t
}

// over is all texts over some bytes, of at most so many, in order.
func over(bytes []byte, most int) []string {
	all := []string{""}
	for i := 0; i < len(all); i++ {
		if len(all[i]) < most {
			for _, b := range bytes {
				all = append(all, all[i]+string([]byte{b}))
			}
		}
	}
	return all
}
