package table_test

import (
	"fmt"
	"math/rand"
	"reflect"
	"slices"
	"testing"

	"hackle/api"
	"hackle/class"
	"hackle/dfa"
	"hackle/lang"
	"hackle/mini"
	"hackle/nfa"
	"hackle/octs"
	"hackle/rxparse"
	"hackle/table"
)

// parsed is the trees of some texts.
func parsed(t *testing.T, texts ...string) []api.Re {
	t.Helper()
	var l []api.Re
	for _, s := range texts {
		re, at, e := rxparse.Parse(s, nil)
		if e != api.OK {
			t.Fatalf("Parse(%q): %d, %d", s, at, e)
		}
		l = append(l, re)
	}
	return l
}

// made is the table of the rules of some texts.
func made(t *testing.T, texts ...string) table.Table {
	t.Helper()
	x, e := table.Make(parsed(t, texts...))
	if e != api.OK {
		t.Fatalf("Make(%q): %d", texts, e)
	}
	return x
}

// of is the table of an automaton.
func of(t *testing.T, d dfa.Dfa) table.Table {
	t.Helper()
	x, e := table.Of(d)
	if e != api.OK {
		t.Fatalf("Of(%s): %d", shown(table.Table{Dfa: d}), e)
	}
	return x
}

// own is a table in new memory, with nil for all that is empty.
func own(x table.Table) table.Table {
	return table.Table{Dfa: ownDfa(x.Dfa), Live: append([]bool(nil), x.Live...)}
}

func ownDfa(d dfa.Dfa) dfa.Dfa {
	c := dfa.Dfa{Classes: d.Classes, Tag: append([]int(nil), d.Tag...)}
	for _, row := range d.Next {
		c.Next = append(c.Next, append([]int(nil), row...))
	}
	return c
}

func same(x, y table.Table) bool {
	return reflect.DeepEqual(own(x), own(y))
}

func isZero(x table.Table) bool {
	return same(x, table.Table{})
}

// shown is a table as a failed test tells it.
func shown(x table.Table) string {
	text := fmt.Sprintf("%d classes, next %v, tag %v, live %v", x.Classes.N, x.Next, x.Tag, x.Live)
	return text[:min(len(text), 600)]
}

// The model is the chapter's words, step by step, without a thought of what is quick.

// liveModel asks of each state each byte.
func liveModel(d dfa.Dfa) []bool {
	var l []bool
	for at := range d.Next {
		live := false
		for b := range 256 {
			live = live || dfa.Step(d, at, byte(b)) >= 0
		}
		l = append(l, live)
	}
	return l
}

// makeModel is the table of rules, by the layers below.
func makeModel(rules []api.Re) (table.Table, api.Errno) {
	n, e := nfa.Build(rules)
	if e != api.OK {
		return table.Table{}, e
	}
	d, e := dfa.Subset(n)
	if e != api.OK {
		return table.Table{}, e
	}
	taken := slices.ContainsFunc(rules, func(re api.Re) bool { return lang.Takes(re, "") })
	least := mini.Min(d)
	if taken || len(least.Next) == 0 {
		return table.Table{}, api.ErrEmpty
	}
	return table.Table{Dfa: least, Live: liveModel(least)}, api.OK
}

// ofModel is the table of an automaton that may be.
func ofModel(d dfa.Dfa) (table.Table, api.Errno) {
	least := mini.Min(d)
	if len(least.Next) == 0 || dfa.Tag(d, "") >= 0 {
		return table.Table{}, api.ErrEmpty
	}
	return table.Table{Dfa: least, Live: liveModel(least)}, api.OK
}

// mayModel tells whether an automaton, with what is live of it, is a table: each state is reached, a tag is reached from each, no two are alike, no two classes are, and states are numbered as they are found.
func mayModel(d dfa.Dfa) bool {
	if len(d.Next) == 0 || d.Tag[0] >= 0 || len(mini.Blocks(d)) != len(d.Next) {
		return false
	}
	found := []int{0}
	for i := 0; i < len(found); i++ {
		for _, to := range d.Next[found[i]] {
			if to >= 0 && !slices.Contains(found, to) {
				found = append(found, to)
			}
		}
		if _, ok := mini.Apart(d, i, -1); !ok {
			return false
		}
	}
	for j := range d.Classes.N {
		for k := range j {
			if !slices.ContainsFunc(d.Next, func(row []int) bool { return row[j] != row[k] }) {
				return false
			}
		}
	}
	return len(found) == len(d.Next) && slices.IsSorted(found)
}

// matchModel asks of each beginning of s its state and its tag.
func matchModel(x table.Table, s string, limit int) (far, longest, tag int) {
	tag = -1
	for n := range len(s) + 1 {
		if n <= limit+1 && dfa.Run(x.Dfa, s[:n]) >= 0 {
			far = n
		}
	}
	for n := 1; n <= far && n <= limit; n++ {
		if got := dfa.Tag(x.Dfa, s[:n]); got >= 0 {
			longest, tag = n, got
		}
	}
	return far, longest, tag
}

// textsModel goes along all texts of the least bytes of classes behind which there is a state, the shortest first.
func textsModel(x table.Table, n int) []string {
	type way struct {
		text string
		at   int
	}
	var l []string
	ways, bytes := []way{{"", 0}}, bytesOf(x.Classes)
	for len(ways) > 0 && len(l) < n {
		w := ways[0]
		ways = ways[1:]
		if x.Tag[w.at] >= 0 {
			l = append(l, w.text)
		}
		for _, b := range bytes {
			if to := x.Next[w.at][x.Classes.Of[b]]; to >= 0 {
				ways = append(ways, way{w.text + string([]byte{b}), to})
			}
		}
	}
	return l
}

// bytesOf is the least byte of each class, rising.
func bytesOf(c class.Classes) []byte {
	var l []byte
	for b := range 256 {
		if !slices.ContainsFunc(l, func(x byte) bool { return c.Of[x] == c.Of[b] }) {
			l = append(l, byte(b))
		}
	}
	return l
}

// chance makes trees, automata and texts at random.
type chance struct{ *rand.Rand }

func newChance(seed int64) chance {
	return chance{rand.New(rand.NewSource(seed))}
}

// expression is the text of an expression, of which parentheses hold each part together.
func (c chance) expression(deep int) string {
	kind := c.Intn(8)
	if deep <= 1 {
		kind = c.Intn(4)
	}
	sub := func() string { return c.expression(deep - 1) }
	switch kind {
	case 0:
		return "()"
	case 1, 2, 3:
		return []string{"[]", "a", "a", "b", "b", "[ab]", "[bc]", "."}[c.Intn(8)]
	case 4, 5:
		return "(" + sub() + sub() + ")"
	case 6:
		return "(" + sub() + "|" + sub() + ")"
	}
	return "(" + sub() + ")" + []string{"*", "*", "+", "?", "{2}", "{1,3}", "{0,2}", "{2,}", "{0}"}[c.Intn(9)]
}

// expressions is those of rules, of which most don't take the empty text.
func (c chance) expressions() []string {
	var l []string
	for len(l) == 0 || c.Intn(3) > 0 && len(l) < 6 {
		s := c.expression(1 + c.Intn(5))
		if c.Intn(6) > 0 {
			s = []string{"a", "b", "[ab]"}[c.Intn(3)] + s
		}
		l = append(l, s)
	}
	return l
}

func (c chance) set() api.Set {
	return octs.Of([]byte([]string{"", "a", "b", "ab", "ab", "\x00\x3f\x40\xff"}[c.Intn(6)])...)
}

func (c chance) classes() class.Classes {
	var sets []api.Set
	for range c.Intn(4) {
		sets = append(sets, c.set())
	}
	return class.Part(sets...)
}

// dfa is an automaton that may be: of few tags, and few steps, so that many are least ones.
func (c chance) dfa(most int) dfa.Dfa {
	d := dfa.Dfa{Classes: c.classes()}
	all, leads, tags := c.Intn(most), 1+c.Intn(3), 1+c.Intn(4)
	for at := range all {
		row := slices.Repeat([]int{-1}, d.Classes.N)
		for k := range row {
			if c.Intn(3) < leads {
				row[k] = c.Intn(all)
			}
		}
		tag := c.tag(tags)
		if at == 0 && c.Intn(5) > 0 {
			tag = -1
		}
		d.Next, d.Tag = append(d.Next, row), append(d.Tag, tag)
	}
	return d
}

// tag is none, or one of three, of which none is the likelier, the greater outOf is.
func (c chance) tag(outOf int) int {
	if c.Intn(outOf) > 0 {
		return -1
	}
	return []int{0, 0, 1, 39}[c.Intn(4)]
}

// table is one that there is.
func (c chance) table(most int) table.Table {
	for {
		if x, e := table.Of(c.dfa(most)); e == api.OK {
			return x
		}
	}
}

// text is a text over some bytes, of at most so many.
func (c chance) text(bytes string, most int) string {
	l := make([]byte, c.Intn(most+1))
	for i := range l {
		l[i] = bytes[c.Intn(len(bytes))]
	}
	return string(l)
}

// over is all texts over some bytes, of at most so many.
func over(bytes string, most int) []string {
	all := []string{""}
	for i := 0; i < len(all); i++ {
		if len(all[i]) < most {
			for _, b := range []byte(bytes) {
				all = append(all, all[i]+string([]byte{b}))
			}
		}
	}
	return all
}
