package dfa_test

import (
	"fmt"
	"math/rand"
	"reflect"
	"slices"
	"testing"

	"hackle/api"
	"hackle/class"
	"hackle/dfa"
	"hackle/lang"
	"hackle/nfa"
	"hackle/octs"
	"hackle/rxparse"
)

// parsed is the trees of some texts.
func parsed(t *testing.T, texts ...string) []api.Re {
	t.Helper()
	var l []api.Re
	for _, s := range texts {
		re, at, e := rxparse.Parse(s, nil)
		if e != api.OK {
			t.Fatalf("Parse(%q): %d, %d", s, at, e)
		}
		l = append(l, re)
	}
	return l
}

// choices is the automaton with choices of rules that there is.
func choices(t *testing.T, rules ...api.Re) nfa.Nfa {
	t.Helper()
	n, e := nfa.Build(rules)
	if e != api.OK {
		t.Fatalf("Build: %d", e)
	}
	return n
}

// subsets is the subsets that there are.
func subsets(t *testing.T, n nfa.Nfa) dfa.Dfa {
	t.Helper()
	d, e := dfa.Subset(n)
	if e != api.OK {
		t.Fatalf("Subset: %d", e)
	}
	return d
}

// ofTexts is the subsets of the rules of some texts.
func ofTexts(t *testing.T, texts ...string) dfa.Dfa {
	t.Helper()
	return subsets(t, choices(t, parsed(t, texts...)...))
}

// own is an automaton in new memory, with nil for all that is empty.
func own(d dfa.Dfa) dfa.Dfa {
	c := dfa.Dfa{Classes: d.Classes, Tag: append([]int(nil), d.Tag...)}
	for _, row := range d.Next {
		c.Next = append(c.Next, append([]int(nil), row...))
	}
	return c
}

func same(x, y dfa.Dfa) bool {
	return reflect.DeepEqual(own(x), own(y))
}

func isZero(d dfa.Dfa) bool {
	return same(d, dfa.Dfa{})
}

// The model is the chapter's words, step by step, without a thought of what is quick.

// subsetModel is the subsets of n, by layer 8's calls; false, if there are more than most.
func subsetModel(n nfa.Nfa, most int) (dfa.Dfa, bool) {
	d := dfa.Dfa{Classes: class.Part(n.Sets...), Tag: []int{n.Empty}}
	rows := [][]int{{-1}} // no place is -1, so that the first one is none of the others
	for at := 0; at < len(rows); at++ {
		d.Next = append(d.Next, slices.Repeat([]int{-1}, d.Classes.N))
		for k := range d.Classes.N {
			places := behindModel(n, at, rows[at], byte(class.First(d.Classes, k)))
			if len(places) == 0 {
				continue
			}
			to := slices.IndexFunc(rows, func(row []int) bool { return slices.Equal(row, places) })
			if to < 0 {
				to = len(rows)
				rows = append(rows, places)
				d.Tag = append(d.Tag, nfa.Tag(n, places))
			}
			d.Next[at][k] = to
			if len(rows) > most {
				return dfa.Dfa{}, false
			}
		}
	}
	return d, true
}

func behindModel(n nfa.Nfa, at int, places []int, b byte) []int {
	if at == 0 {
		return nfa.Begin(n, b)
	}
	return nfa.Go(n, places, b)
}

// stepModel is the state to which b leads.
func stepModel(d dfa.Dfa, at int, b byte) int {
	if at < 0 || at >= len(d.Next) {
		return -1
	}
	return d.Next[at][d.Classes.Of[b]]
}

// runModel is the state behind a text, which is gone to from the last byte's state on.
func runModel(d dfa.Dfa, s string) int {
	if s == "" {
		return min(len(d.Next), 1) - 1
	}
	last := len(s) - 1
	return stepModel(d, runModel(d, s[:last]), s[last])
}

func tagModel(d dfa.Dfa, s string) int {
	if at := runModel(d, s); at >= 0 {
		return d.Tag[at]
	}
	return -1
}

// behind is the states to which one leads, by however many steps, none too.
func behind(d dfa.Dfa, at int) []int {
	l := []int{at}
	for range d.Next {
		for _, p := range slices.Clone(l) {
			for _, q := range d.Next[p] {
				if q >= 0 && !slices.Contains(l, q) {
					l = append(l, q)
				}
			}
		}
	}
	return l
}

func tagBehind(d dfa.Dfa, at int) bool {
	return slices.ContainsFunc(behind(d, at), func(p int) bool { return d.Tag[p] >= 0 })
}

// trimModel is d trimmed: what led to others leads to none, and then the states are found as those of the subsets are.
func trimModel(d dfa.Dfa) dfa.Dfa {
	t := dfa.Dfa{Classes: d.Classes}
	if len(d.Next) == 0 || !tagBehind(d, 0) {
		return t
	}
	rows := slices.Clone(d.Next)
	for at := range rows {
		rows[at] = slices.Clone(rows[at])
		for k, to := range rows[at] {
			if to >= 0 && !tagBehind(d, to) {
				rows[at][k] = -1
			}
		}
	}
	names := []int{0}
	for i := 0; i < len(names); i++ {
		row := slices.Repeat([]int{-1}, d.Classes.N)
		for k, to := range rows[names[i]] {
			if to >= 0 {
				if !slices.Contains(names, to) {
					names = append(names, to)
				}
				row[k] = slices.Index(names, to)
			}
		}
		t.Next, t.Tag = append(t.Next, row), append(t.Tag, d.Tag[names[i]])
	}
	return t
}

// firstRule is the first rule one of whose texts s is.
func firstRule(rules []api.Re, s string) int {
	return slices.IndexFunc(rules, func(re api.Re) bool { return lang.Takes(re, s) })
}

// begins tells whether a text of a rule begins with s.
func begins(rules []api.Re, s string) bool {
	return slices.ContainsFunc(rules, func(re api.Re) bool { return lang.Begins(re, s) })
}

// shown is an automaton as a failed test tells it.
func shown(d dfa.Dfa) string {
	text := fmt.Sprintf("%d classes, next %v, tag %v", d.Classes.N, d.Next, d.Tag)
	return text[:min(len(text), 600)]
}

// chance makes trees and automata at random.
type chance struct{ *rand.Rand }

func newChance(seed int64) chance {
	return chance{rand.New(rand.NewSource(seed))}
}

// expression is the text of an expression, of which parentheses hold each part together.
func (c chance) expression(deep int) string {
	kind := c.Intn(8)
	if deep <= 1 {
		kind = c.Intn(4)
	}
	sub := func() string { return c.expression(deep - 1) }
	switch kind {
	case 0:
		return "()"
	case 1, 2, 3:
		return []string{"[]", "a", "a", "b", "b", "[ab]", "[bc]", "."}[c.Intn(8)]
	case 4, 5:
		return "(" + sub() + sub() + ")"
	case 6:
		return "(" + sub() + "|" + sub() + ")"
	}
	return "(" + sub() + ")" + []string{"*", "*", "+", "?", "{2}", "{1,3}", "{0,2}", "{2,}", "{0}"}[c.Intn(9)]
}

func (c chance) expressions() []string {
	l := []string{c.expression(5)}
	for c.Intn(3) > 0 && len(l) < 6 {
		l = append(l, c.expression(1+c.Intn(5)))
	}
	return l
}

func (c chance) row(all, outOf int) []int {
	var l []int
	for p := range all {
		if c.Intn(outOf) == 0 {
			l = append(l, p)
		}
	}
	return l
}

func (c chance) set() api.Set {
	return octs.Of([]byte([]string{"", "a", "b", "ab", "ab", "\x00\x3f\x40\xff"}[c.Intn(6)])...)
}

// nfa is an automaton with choices that may be, though it may be that of no rules.
func (c chance) nfa(most int) nfa.Nfa {
	all := c.Intn(most)
	n := nfa.Nfa{First: c.row(all, 2), Empty: c.Intn(api.MaxRules+1) - 1}
	for range all {
		n.Sets = append(n.Sets, c.set())
		n.Rules = append(n.Rules, c.Intn(api.MaxRules))
		n.Follow = append(n.Follow, c.row(all, 2+c.Intn(3)))
		n.Ends = append(n.Ends, c.Intn(3) == 0)
	}
	return n
}

// dfa is an automaton that may be, though it may be that of no automaton with choices.
func (c chance) dfa(most int) dfa.Dfa {
	var sets []api.Set
	for range c.Intn(4) {
		sets = append(sets, c.set())
	}
	d := dfa.Dfa{Classes: class.Part(sets...)}
	all, leads, tags := c.Intn(most), 1+c.Intn(3), 1+c.Intn(6)
	for range all {
		row := slices.Repeat([]int{-1}, d.Classes.N)
		for k := range row {
			if c.Intn(3) < leads {
				row[k] = c.Intn(all)
			}
		}
		tag := -1
		if c.Intn(tags) == 0 {
			tag = c.Intn(api.MaxRules)
		}
		d.Next, d.Tag = append(d.Next, row), append(d.Tag, tag)
	}
	return d
}

func (c chance) text(bytes string, most int) string {
	s := ""
	for range c.Intn(most + 1) {
		s += bytes[c.Intn(len(bytes)):][:1]
	}
	return s
}

// over is all texts over some bytes, of at most so many.
func over(bytes string, most int) []string {
	all := []string{""}
	for i := 0; i < len(all); i++ {
		if len(all[i]) < most {
			for _, b := range []byte(bytes) {
				all = append(all, all[i]+string([]byte{b}))
			}
		}
	}
	return all
}
