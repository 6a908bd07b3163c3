package nfa_test

import (
	"fmt"
	"math/rand"
	"reflect"
	"slices"
	"testing"

	"hackle/api"
	"hackle/nfa"
	"hackle/octs"
	"hackle/rxparse"
)

// The trees of these tests are literals, or are parsed, so that nothing hangs on the calls that make trees.

func one(bs ...byte) api.Re  { return api.Re{Kind: api.ReByte, Set: octs.Of(bs...)} }
func cat(l ...api.Re) api.Re { return api.Re{Kind: api.ReCat, Sub: l} }
func alt(l ...api.Re) api.Re { return api.Re{Kind: api.ReAlt, Sub: l} }
func rep(re api.Re, lo, hi int) api.Re {
	return api.Re{Kind: api.ReRep, Sub: []api.Re{re}, Min: lo, Max: hi}
}
func maybe(re api.Re) api.Re { return rep(re, 0, 1) }
func star(re api.Re) api.Re  { return rep(re, 0, -1) }

// parsed is the trees of some texts.
func parsed(t *testing.T, texts ...string) []api.Re {
	t.Helper()
	var l []api.Re
	for _, s := range texts {
		re, at, e := rxparse.Parse(s, nil)
		if e != api.OK {
			t.Fatalf("Parse(%q): %d, %d", s, at, e)
		}
		l = append(l, re)
	}
	return l
}

// built is the automaton of rules that there is.
func built(t *testing.T, rules ...api.Re) nfa.Nfa {
	t.Helper()
	n, e := nfa.Build(rules)
	if e != api.OK {
		t.Fatalf("Build: %d", e)
	}
	return n
}

// copied is a tree in new memory.
func copied(re api.Re) api.Re {
	subs := re.Sub
	re.Sub = nil
	for _, sub := range subs {
		re.Sub = append(re.Sub, copied(sub))
	}
	return re
}

// own is an automaton in new memory, with nil for all that is empty.
func own(n nfa.Nfa) nfa.Nfa {
	row := func(l []int) []int { return append([]int(nil), l...) }
	c := nfa.Nfa{Sets: append([]api.Set(nil), n.Sets...), Rules: row(n.Rules), First: row(n.First), Ends: append([]bool(nil), n.Ends...), Empty: n.Empty}
	for _, l := range n.Follow {
		c.Follow = append(c.Follow, row(l))
	}
	return c
}

func same(x, y nfa.Nfa) bool {
	return reflect.DeepEqual(own(x), own(y))
}

func isZero(n nfa.Nfa) bool {
	return same(n, nfa.Nfa{})
}

func nodes(re api.Re) int {
	n := 1
	for _, sub := range re.Sub {
		n += nodes(sub)
	}
	return n
}

// The model is the chapter's words, step by step, without a thought of what is quick: out is a tree written out.
type out struct {
	kind  string
	set   api.Set
	place int
	subs  []*out
}

// writtenOut is re written out; its places aren't numbered.
func writtenOut(re api.Re) *out {
	switch re.Kind {
	case api.ReByte:
		return &out{kind: "place", set: re.Set}
	case api.ReCat, api.ReAlt:
		o := &out{kind: "row"}
		if re.Kind == api.ReAlt {
			o.kind = "either"
		}
		for _, sub := range re.Sub {
			o.subs = append(o.subs, writtenOut(sub))
		}
		return o
	case api.ReRep:
		return writtenRep(re.Sub[0], re.Min, re.Max)
	}
	return &out{kind: "empty"}
}

func writtenRep(sub api.Re, lo, hi int) *out {
	row := &out{kind: "row"}
	for range lo {
		row.subs = append(row.subs, writtenOut(sub))
	}
	if hi == -1 {
		if lo == 0 {
			again := &out{kind: "again", subs: []*out{writtenOut(sub)}}
			return &out{kind: "left out", subs: []*out{again}}
		}
		row.subs[lo-1] = &out{kind: "again", subs: []*out{row.subs[lo-1]}}
		return row
	}
	var behind []*out
	for range hi - lo {
		more := &out{kind: "row", subs: append([]*out{writtenOut(sub)}, behind...)}
		behind = []*out{{kind: "left out", subs: []*out{more}}}
	}
	row.subs = append(row.subs, behind...)
	return row
}

// leaves is the places of a tree written out, from the left.
func (o *out) leaves() []*out {
	if o.kind == "place" {
		return []*out{o}
	}
	var l []*out
	for _, sub := range o.subs {
		l = append(l, sub.leaves()...)
	}
	return l
}

func (o *out) mayBeEmpty() bool {
	switch o.kind {
	case "place":
		return false
	case "row":
		for _, sub := range o.subs {
			if !sub.mayBeEmpty() {
				return false
			}
		}
		return true
	case "either":
		for _, sub := range o.subs {
			if sub.mayBeEmpty() {
				return true
			}
		}
		return false
	case "again":
		return o.subs[0].mayBeEmpty()
	}
	return true // "empty", "left out"
}

// edge is what begins o, or, from the right, what ends it.
func (o *out) edge(right bool) []int {
	if o.kind == "place" {
		return []int{o.place}
	}
	subs := slices.Clone(o.subs)
	if right {
		slices.Reverse(subs)
	}
	var l []int
	for _, sub := range subs {
		l = append(l, sub.edge(right)...)
		if o.kind == "row" && !sub.mayBeEmpty() {
			break
		}
	}
	return l
}

// pairs tells each place with one that may come directly behind it.
func (o *out) pairs(tell func(ahead, behind int)) {
	both := func(ahead, behind *out) {
		for _, p := range ahead.edge(true) {
			for _, q := range behind.edge(false) {
				tell(p, q)
			}
		}
	}
	for i, sub := range o.subs {
		sub.pairs(tell)
		if o.kind == "row" {
			for _, behind := range o.subs[i+1:] {
				both(sub, behind)
				if !behind.mayBeEmpty() {
					break
				}
			}
		}
	}
	if o.kind == "again" {
		both(o.subs[0], o.subs[0])
	}
}

// modelOf is the automaton of rules, as the words say.
func modelOf(rules ...api.Re) nfa.Nfa {
	n := nfa.Nfa{Empty: -1}
	var trees []*out
	for i, re := range rules {
		o := writtenOut(re)
		for _, leaf := range o.leaves() {
			leaf.place = len(n.Sets)
			n.Sets, n.Rules = append(n.Sets, leaf.set), append(n.Rules, i)
		}
		trees = append(trees, o)
		if o.mayBeEmpty() && n.Empty == -1 {
			n.Empty = i
		}
	}
	all := len(n.Sets)
	first, follow := make([]bool, all), make([]bool, all*all)
	n.Ends = make([]bool, all)
	for _, o := range trees {
		for _, p := range o.edge(false) {
			first[p] = true
		}
		for _, p := range o.edge(true) {
			n.Ends[p] = true
		}
		o.pairs(func(ahead, behind int) { follow[ahead*all+behind] = true })
	}
	n.First = marked(first)
	for p := range all {
		n.Follow = append(n.Follow, marked(follow[p*all:(p+1)*all]))
	}
	return n
}

// marked is the numbers of what is true, rising.
func marked(l []bool) []int {
	var row []int
	for p, is := range l {
		if is {
			row = append(row, p)
		}
	}
	return row
}

// placesModel counts places, up to no bound but what an int holds.
func placesModel(re api.Re) int {
	n := 0
	for _, sub := range re.Sub {
		n += placesModel(sub)
	}
	switch {
	case re.Kind == api.ReByte:
		return 1
	case re.Kind != api.ReRep:
		return n
	case re.Max >= 0:
		return n * re.Max
	case re.Min == 0:
		return n
	}
	return n * re.Min
}

// The steps of any automaton, as the words say.

func beginModel(n nfa.Nfa, b byte) []int {
	var l []int
	for p, s := range n.Sets {
		if slices.Contains(n.First, p) && octs.Has(s, b) {
			l = append(l, p)
		}
	}
	return l
}

func goModel(n nfa.Nfa, at []int, b byte) []int {
	var l []int
	for q, s := range n.Sets {
		follows := slices.ContainsFunc(at, func(p int) bool { return slices.Contains(n.Follow[p], q) })
		if follows && octs.Has(s, b) {
			l = append(l, q)
		}
	}
	return l
}

func tagModel(n nfa.Nfa, at []int) int {
	for rule := range api.MaxRules {
		if slices.ContainsFunc(at, func(p int) bool { return n.Ends[p] && n.Rules[p] == rule }) {
			return rule
		}
	}
	return -1
}

func runModel(n nfa.Nfa, s string) ([]int, int) {
	if s == "" {
		return nil, n.Empty
	}
	at := beginModel(n, s[0])
	for _, b := range []byte(s[1:]) {
		at = goModel(n, at, b)
	}
	return at, tagModel(n, at)
}

// shown is an automaton as a failed test tells it.
func shown(n nfa.Nfa) string {
	text := fmt.Sprintf("%d places, first %v, follow %v, ends %v, rules %v, empty %d", len(n.Sets), n.First, n.Follow, n.Ends, n.Rules, n.Empty)
	return text[:min(len(text), 600)]
}

// chance makes trees and automata at random.
type chance struct{ *rand.Rand }

func (c chance) tree(deep int) api.Re {
	kind := c.Intn(9)
	if deep == 1 {
		kind = c.Intn(4)
	}
	switch kind {
	case 0:
		return api.Re{}
	case 1, 2, 3:
		return one([]byte([]string{"", "a", "a", "b", "b", "ab", "bc"}[c.Intn(7)])...)
	case 4, 5:
		return cat(c.trees(deep - 1)...)
	case 6:
		return alt(c.trees(deep - 1)...)
	}
	bounds := [][2]int{{0, -1}, {0, -1}, {1, -1}, {1, -1}, {2, -1}, {3, -1}, {0, 0}, {0, 1}, {0, 1}, {1, 1}, {0, 2}, {0, 3}, {1, 2}, {1, 3}, {2, 2}, {2, 3}, {2, 4}, {3, 3}}
	bound := bounds[c.Intn(len(bounds))]
	return rep(c.tree(deep-1), bound[0], bound[1])
}

func (c chance) trees(deep int) []api.Re {
	l := []api.Re{c.tree(deep), c.tree(deep)}
	for range c.Intn(3) {
		l = append(l, c.tree(deep))
	}
	return l
}

// rules is some trees with no more places than most, in all.
func (c chance) rules(most int) []api.Re {
	var l []api.Re
	for len(l) < 1 || c.Intn(3) > 0 && len(l) < api.MaxRules {
		if re := c.tree(1 + c.Intn(5)); nodes(re) <= api.MaxNodes && placesModel(re) <= most {
			most -= placesModel(re)
			l = append(l, re)
		}
	}
	return l
}

func (c chance) row(all, outOf int) []int {
	var l []int
	for p := range all {
		if c.Intn(outOf) == 0 {
			l = append(l, p)
		}
	}
	return l
}

// nfa is an automaton that may be, though it may be that of no rules.
func (c chance) nfa() nfa.Nfa {
	all := c.Intn(12)
	n := nfa.Nfa{First: c.row(all, 2), Empty: c.Intn(api.MaxRules+1) - 1}
	for range all {
		n.Sets = append(n.Sets, octs.Of([]byte([]string{"", "a", "b", "ab", "ab", "\x00\x3f\x40\xff"}[c.Intn(6)])...))
		n.Rules = append(n.Rules, c.Intn(api.MaxRules))
		n.Follow = append(n.Follow, c.row(all, 2+c.Intn(3)))
		n.Ends = append(n.Ends, c.Intn(3) == 0)
	}
	return n
}

func (c chance) text(bytes string, most int) string {
	s := ""
	for range c.Intn(most + 1) {
		s += bytes[c.Intn(len(bytes)):][:1]
	}
	return s
}

func newChance(seed int64) chance {
	return chance{rand.New(rand.NewSource(seed))}
}

// over is all texts over some bytes, of at most so many.
func over(bytes string, most int) []string {
	all := []string{""}
	for i := 0; i < len(all); i++ {
		if len(all[i]) < most {
			for _, b := range []byte(bytes) {
				all = append(all, all[i]+string([]byte{b}))
			}
		}
	}
	return all
}

// nested is a tree as deep as may be, of re within one and the same again and again.
func nested(re api.Re, around func(api.Re) api.Re) api.Re {
	for deep(around(re)) <= api.MaxDeep {
		re = around(re)
	}
	return re
}

func deep(re api.Re) int {
	most := 0
	for _, sub := range re.Sub {
		most = max(most, deep(sub))
	}
	return most + 1
}

// wide is a tree of so many nodes, all but one side by side.
func wide(n int) api.Re {
	l := make([]api.Re, n-1)
	for i := range l {
		l[i] = one('a')
	}
	return cat(l...)
}

// doubled is a tree of 2 to the power n leaves that takes little memory, as its Subs are one list.
func doubled(n int) api.Re {
	re := one('a')
	for range n {
		re = cat(re, re)
	}
	return re
}

// ring is no tree: it has itself as a Sub.
func ring(kind int) api.Re {
	l := make([]api.Re, 2)
	l[0], l[1] = api.Re{Kind: kind, Sub: l}, api.Re{Kind: kind, Sub: l}
	return l[0]
}

// mayNotBe is trees that layer 4 refuses.
func mayNotBe() []api.Re {
	a, b := one('a'), one('b')
	chain := a
	for range api.MaxDeep {
		chain = maybe(chain)
	}
	l := []api.Re{
		{Kind: -1}, {Kind: 5}, {Kind: 9}, {Kind: 1 << 62}, {Kind: -1 << 63},
		{Set: octs.Of(0)}, {Min: 1}, {Max: -1}, {Sub: []api.Re{a}},
		{Kind: api.ReByte, Min: 1}, {Kind: api.ReByte, Max: 1}, {Kind: api.ReByte, Sub: []api.Re{a}},
		cat(), cat(a), alt(), alt(a),
		{Kind: api.ReCat, Sub: []api.Re{a, b}, Set: octs.Of(255)}, {Kind: api.ReAlt, Sub: []api.Re{a, b}, Max: 1},
		{Kind: api.ReRep}, {Kind: api.ReRep, Sub: []api.Re{a, b}, Max: 1}, {Kind: api.ReRep, Sub: []api.Re{a}, Set: octs.Of(1), Max: 1},
		rep(a, -1, 1), rep(a, -1, -1), rep(a, 2, 1), rep(a, 0, -2), rep(a, 65, -1), rep(a, 65, 65), rep(a, 0, 65), rep(a, 0, 1<<62),
		wide(301), chain, doubled(62), ring(api.ReCat), ring(api.ReAlt), ring(api.ReRep),
	}
	for _, re := range l[:29] {
		l = append(l, cat(a, re), alt(re, a), rep(re, 0, 0), star(maybe(re)))
	}
	return l
}
