package mini_test

import (
	"fmt"
	"math/rand"
	"reflect"
	"slices"
	"testing"

	"hackle/api"
	"hackle/class"
	"hackle/dfa"
	"hackle/nfa"
	"hackle/octs"
	"hackle/rxparse"
)

// parsed is the trees of some texts.
func parsed(t *testing.T, texts ...string) []api.Re {
	t.Helper()
	var l []api.Re
	for _, s := range texts {
		re, at, e := rxparse.Parse(s, nil)
		if e != api.OK {
			t.Fatalf("Parse(%q): %d, %d", s, at, e)
		}
		l = append(l, re)
	}
	return l
}

// ofTexts is the subsets of the rules of some texts.
func ofTexts(t *testing.T, texts ...string) dfa.Dfa {
	t.Helper()
	d, e := tried(parsed(t, texts...))
	if e != api.OK {
		t.Fatalf("%v: %d", texts, e)
	}
	return d
}

// tried is the subsets of rules, if there are no more than may be.
func tried(rules []api.Re) (dfa.Dfa, api.Errno) {
	n, e := nfa.Build(rules)
	if e != api.OK {
		return dfa.Dfa{}, e
	}
	return dfa.Subset(n)
}

// own is an automaton in new memory, with nil for all that is empty.
func own(d dfa.Dfa) dfa.Dfa {
	return dfa.Dfa{Classes: d.Classes, Next: ownRows(d.Next), Tag: append([]int(nil), d.Tag...)}
}

func ownRows(rows [][]int) [][]int {
	var l [][]int
	for _, row := range rows {
		l = append(l, append([]int(nil), row...))
	}
	return l
}

func same(x, y dfa.Dfa) bool {
	return reflect.DeepEqual(own(x), own(y))
}

func isZero(d dfa.Dfa) bool {
	return same(d, dfa.Dfa{})
}

// The model is the chapter's words, step by step, without a thought of what is quick.

// stepModel is the state to which b leads from a state, or from none.
func stepModel(d dfa.Dfa, at int, b byte) int {
	if at < 0 {
		return -1
	}
	return d.Next[at][d.Classes.Of[b]]
}

func tagModel(d dfa.Dfa, at int) int {
	if at < 0 {
		return -1
	}
	return d.Tag[at]
}

// fromModel is the tag that a text has from a state, or from none.
func fromModel(d dfa.Dfa, at int, s string) int {
	for _, b := range []byte(s) {
		at = stepModel(d, at, b)
	}
	return tagModel(d, at)
}

// bytesOf is the least byte of each class.
func bytesOf(d dfa.Dfa) []byte {
	var l []byte
	for b := range 256 {
		if !slices.ContainsFunc(l, func(x byte) bool { return d.Classes.Of[x] == d.Classes.Of[b] }) {
			l = append(l, byte(b))
		}
	}
	return l
}

// apartModel is of all pairs of states, counted from none on, whether some text has other tags from them: by no byte, by one, and so on.
func apartModel(d dfa.Dfa) [][]bool {
	all, bytes := len(d.Next)+1, bytesOf(d)
	l := make([][]bool, all)
	for i := range l {
		l[i] = make([]bool, all)
		for j := range l[i] {
			l[i][j] = tagModel(d, i-1) != tagModel(d, j-1)
		}
	}
	for more := true; more; {
		more = false
		for i := range all {
			for j := range all {
				led := slices.ContainsFunc(bytes, func(b byte) bool { return l[stepModel(d, i-1, b)+1][stepModel(d, j-1, b)+1] })
				if led && !l[i][j] {
					l[i][j], more = true, true
				}
			}
		}
	}
	return l
}

func blocksModel(d dfa.Dfa) [][]int {
	apart := apartModel(d)
	var lists [][]int
	for i := range d.Next {
		var list []int
		for j := range d.Next {
			if !apart[i+1][j+1] {
				list = append(list, j)
			}
		}
		if list[0] == i {
			lists = append(lists, list)
		}
	}
	return lists
}

// minModel is the least automaton, whose states stand for lists of alike ones.
func minModel(d dfa.Dfa) dfa.Dfa {
	t := dfa.Trim(d)
	blocks := blocksModel(t)
	blockOf := func(at int) int {
		return slices.IndexFunc(blocks, func(l []int) bool { return slices.Contains(l, at) })
	}
	m := dfa.Dfa{Classes: joinedModel(t, blocks, blockOf)}
	if len(blocks) == 0 {
		return m
	}
	names := []int{0} // the first state is in the first block
	for i := 0; i < len(names); i++ {
		row := slices.Repeat([]int{-1}, m.Classes.N)
		for k := range row {
			to := blockOf(stepModel(t, blocks[names[i]][0], byte(class.First(m.Classes, k))))
			if to >= 0 && !slices.Contains(names, to) {
				names = append(names, to)
			}
			row[k] = slices.Index(names, to)
		}
		m.Next, m.Tag = append(m.Next, row), append(m.Tag, t.Tag[blocks[names[i]][0]])
	}
	return m
}

// joinedModel is the classes by which no block leads to another one.
func joinedModel(t dfa.Dfa, blocks [][]int, blockOf func(int) int) class.Classes {
	var c class.Classes
	var seen [][]int
	for b := range 256 {
		var leads []int
		for _, l := range blocks {
			leads = append(leads, blockOf(stepModel(t, l[0], byte(b))))
		}
		k := slices.IndexFunc(seen, func(x []int) bool { return slices.Equal(x, leads) })
		if k < 0 {
			k = len(seen)
			seen = append(seen, leads)
		}
		c.Of[b], c.N = uint8(k), len(seen)
	}
	return c
}

// tellModel is the first one of the shortest texts that tell two states apart: of all pairs, as they are come to.
func tellModel(d dfa.Dfa, i, j int) (string, bool) {
	if i < -1 || j < -1 || i >= len(d.Next) || j >= len(d.Next) {
		return "", false
	}
	bytes, pairs, texts := bytesOf(d), [][2]int{{i, j}}, []string{""}
	for at := 0; at < len(pairs); at++ {
		i, j := pairs[at][0], pairs[at][1]
		if tagModel(d, i) != tagModel(d, j) {
			return texts[at], true
		}
		for _, b := range bytes {
			p := [2]int{stepModel(d, i, b), stepModel(d, j, b)}
			if !slices.Contains(pairs, p) {
				pairs, texts = append(pairs, p), append(texts, texts[at]+string([]byte{b}))
			}
		}
	}
	return "", false
}

// equalModel tells whether each text has the same tag in both: by the pairs of states to which texts lead.
func equalModel(a, b dfa.Dfa) bool {
	first := func(d dfa.Dfa) int { return min(len(d.Next), 1) - 1 }
	pairs := [][2]int{{first(a), first(b)}}
	for at := 0; at < len(pairs); at++ {
		i, j := pairs[at][0], pairs[at][1]
		if tagModel(a, i) != tagModel(b, j) {
			return false
		}
		for x := range 256 {
			if p := [2]int{stepModel(a, i, byte(x)), stepModel(b, j, byte(x))}; !slices.Contains(pairs, p) {
				pairs = append(pairs, p)
			}
		}
	}
	return true
}

// shown is an automaton as a failed test tells it.
func shown(d dfa.Dfa) string {
	text := fmt.Sprintf("%d classes, next %v, tag %v", d.Classes.N, d.Next, d.Tag)
	return text[:min(len(text), 600)]
}

// chance makes trees and automata at random.
type chance struct{ *rand.Rand }

func newChance(seed int64) chance {
	return chance{rand.New(rand.NewSource(seed))}
}

// expression is the text of an expression, of which parentheses hold each part together.
func (c chance) expression(deep int) string {
	kind := c.Intn(8)
	if deep <= 1 {
		kind = c.Intn(4)
	}
	sub := func() string { return c.expression(deep - 1) }
	switch kind {
	case 0:
		return "()"
	case 1, 2, 3:
		return []string{"[]", "a", "a", "b", "b", "[ab]", "[bc]", "."}[c.Intn(8)]
	case 4, 5:
		return "(" + sub() + sub() + ")"
	case 6:
		return "(" + sub() + "|" + sub() + ")"
	}
	return "(" + sub() + ")" + []string{"*", "*", "+", "?", "{2}", "{1,3}", "{0,2}", "{2,}", "{0}"}[c.Intn(9)]
}

func (c chance) expressions() []string {
	l := []string{c.expression(5)}
	for c.Intn(3) > 0 && len(l) < 6 {
		l = append(l, c.expression(1+c.Intn(5)))
	}
	return l
}

func (c chance) set() api.Set {
	return octs.Of([]byte([]string{"", "a", "b", "ab", "ab", "\x00\x3f\x40\xff"}[c.Intn(6)])...)
}

func (c chance) classes() class.Classes {
	var sets []api.Set
	for range c.Intn(4) {
		sets = append(sets, c.set())
	}
	return class.Part(sets...)
}

// dfa is an automaton that may be: of few tags, so that many of its states are alike.
func (c chance) dfa(most int) dfa.Dfa {
	d := dfa.Dfa{Classes: c.classes()}
	all, leads, tags := c.Intn(most), 1+c.Intn(3), 1+c.Intn(4)
	for range all {
		row := slices.Repeat([]int{-1}, d.Classes.N)
		for k := range row {
			if c.Intn(3) < leads {
				row[k] = c.Intn(all)
			}
		}
		d.Next, d.Tag = append(d.Next, row), append(d.Tag, c.tag(tags))
	}
	return d
}

// tag is none, or one of three, of which none is the likelier, the greater outOf is.
func (c chance) tag(outOf int) int {
	if c.Intn(outOf) > 0 {
		return -1
	}
	return []int{0, 0, 1, 39}[c.Intn(4)]
}

// twin is an automaton that tags each text as d does: with each state once, or more often, in any order, with a state that isn't led to, with one that leads to no tag in place of none, and with finer classes.
func (c chance) twin(d dfa.Dfa) dfa.Dfa {
	all := len(d.Next)
	of := c.copies(all)
	t := dfa.Dfa{Classes: c.finer(d.Classes)}
	for _, at := range of {
		row := make([]int, t.Classes.N)
		for k := range row {
			to := all
			if at < all {
				to = d.Next[at][d.Classes.Of[class.First(t.Classes, k)]]
			}
			row[k] = c.copyOf(of, to, all)
		}
		tag := -1
		if at < all {
			tag = d.Tag[at]
		}
		t.Next, t.Tag = append(t.Next, row), append(t.Tag, tag)
	}
	return t
}

// copies is of each state of a twin the one that it is: the first one first; the one behind the last one leads to no tag.
func (c chance) copies(all int) []int {
	of := []int{all}
	for at := range all {
		of = append(of, slices.Repeat([]int{at}, 1+c.Intn(3))...)
	}
	c.Shuffle(len(of), func(i, j int) { of[i], of[j] = of[j], of[i] })
	first := slices.Index(of, 0)
	of[0], of[first] = of[first], of[0]
	return of
}

func (c chance) copyOf(of []int, at, all int) int {
	if at < 0 {
		if c.Intn(2) == 0 {
			return -1
		}
		at = all
	}
	var l []int
	for i, x := range of {
		if x == at {
			l = append(l, i)
		}
	}
	return l[c.Intn(len(l))]
}

func (c chance) finer(k class.Classes) class.Classes {
	sets := []api.Set{c.set(), c.set()}
	for i := range k.N {
		sets = append(sets, class.Members(k, i))
	}
	return class.Part(sets...)
}

// over is all texts over some bytes, of at most so many.
func over(bytes string, most int) []string {
	all := []string{""}
	for i := 0; i < len(all); i++ {
		if len(all[i]) < most {
			for _, b := range []byte(bytes) {
				all = append(all, all[i]+string([]byte{b}))
			}
		}
	}
	return all
}
