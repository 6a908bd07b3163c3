package nfa_test

import (
	"math"
	"slices"
	"strconv"
	"strings"
	"testing"

	"hackle/api"
	"hackle/lang"
	"hackle/nfa"
	"hackle/octs"
	"hackle/rx"
)

// P8.1, Places

func TestPlacesByHand(t *testing.T) {
	a := one('a')
	for _, x := range []struct {
		name string
		re   api.Re
		want int
	}{
		{"empty", api.Re{}, 0},
		{"a byte", a, 1},
		{"a byte of none", one(), 1},
		{"a byte of all", api.Re{Kind: api.ReByte, Set: octs.Range(0, 255)}, 1},
		{"a row", cat(a, api.Re{}, a, a), 3},
		{"one of them", alt(a, api.Re{}, cat(a, a)), 3},
		{"no time", rep(cat(a, a), 0, 0), 0},
		{"once", rep(cat(a, a), 1, 1), 2},
		{"left out", maybe(cat(a, a)), 2},
		{"however often", star(cat(a, a)), 2},
		{"once and more", rep(cat(a, a), 1, -1), 2},
		{"twice and more", rep(cat(a, a), 2, -1), 4},
		{"64 and more", rep(a, 64, -1), 64},
		{"0 to 64", rep(a, 0, 64), 64},
		{"63 to 64", rep(a, 63, 64), 64},
		{"64", rep(a, 64, 64), 64},
		{"times times", rep(rep(a, 2, 3), 4, -1), 12},
		{"of none", rep(cat(api.Re{}, api.Re{}), 64, 64), 0},
		{"299 bytes", wide(300), 299},
	} {
		if got := nfa.Places(x.re); got != x.want {
			t.Errorf("%s: %d, want %d", x.name, got, x.want)
		}
	}
}

func TestPlacesUpToTheBound(t *testing.T) {
	a := one('a')
	// 1,000,000 is 64 times 25 times 25 times 25; 999,999 is 7 times 11 times 13 times 27 times 37.
	million := rep(rep(rep(rep(a, 64, 64), 25, 25), 0, 25), 25, -1)
	less := rep(rep(rep(rep(rep(a, 7, 7), 11, 11), 13, 13), 27, 27), 37, 37)
	huge := nested(a, func(re api.Re) api.Re { return rep(re, 64, 64) })
	hugest := nested(wide(100), func(re api.Re) api.Re { return rep(re, 64, -1) })
	for _, x := range []struct {
		name string
		re   api.Re
		want int
	}{
		{"less by 1", less, 999_999},
		{"less by 1, and 1", cat(less, a), 1_000_000},
		{"just as many", million, 1_000_000},
		{"1 more", cat(million, a), 1_000_000},
		{"1 more ahead", alt(a, million), 1_000_000},
		{"twice as many", cat(million, million), 1_000_000},
		{"64 times as many", rep(million, 64, 64), 1_000_000},
		{"no time as many", rep(million, 0, 0), 0},
		{"64 to the power 29", huge, 1_000_000},
		{"100 times 64 to the power 28", hugest, 1_000_000},
		{"none, ever so often", nested(api.Re{}, func(re api.Re) api.Re { return rep(re, 64, 64) }), 0},
		{"none, in rows", nested(api.Re{}, func(re api.Re) api.Re { return cat(rep(re, 64, -1), api.Re{}) }), 0},
		{"no time 64 to the power 27", cat(rep(huge.Sub[0].Sub[0], 0, 0), a), 1},
	} {
		if got := nfa.Places(x.re); got != x.want || !rx.May(x.re) {
			t.Errorf("%s: %d, want %d", x.name, got, x.want)
		}
	}
}

func TestPlacesAtRandom(t *testing.T) {
	c := newChance(1)
	for range 5000 {
		re := c.tree(1 + c.Intn(6))
		if want := placesModel(re); nodes(re) <= api.MaxNodes && nfa.Places(re) != want {
			t.Fatalf("Places(%v): %d, want %d", re, nfa.Places(re), want)
		}
	}
}

func TestPlacesOfWrongTrees(t *testing.T) {
	for i, re := range mayNotBe() {
		if got := nfa.Places(re); got != -1 {
			t.Errorf("tree %d: %d", i, got)
		}
	}
}

// P8.1, Build

// byHand is the automaton of rules: its places' bytes, what begins, what follows each, what ends, the places' rules, each number a digit.
type byHand struct {
	rules                          string // apart by spaces
	bytes, first, follow, ends, of string
	empty                          int
}

func digits(t *testing.T, s string) []int {
	t.Helper()
	var l []int
	for _, d := range s {
		n, err := strconv.Atoi(string(d))
		if err != nil {
			t.Fatal(err)
		}
		l = append(l, n)
	}
	return l
}

func (x byHand) nfa(t *testing.T) nfa.Nfa {
	t.Helper()
	n := nfa.Nfa{Rules: digits(t, x.of), First: digits(t, x.first), Empty: x.empty}
	for i, b := range []byte(x.bytes) {
		n.Sets = append(n.Sets, octs.Of(b))
		n.Follow = append(n.Follow, digits(t, strings.Split(x.follow, ",")[i]))
		n.Ends = append(n.Ends, strings.Contains(x.ends, strconv.Itoa(i)))
	}
	return n
}

func TestBuildByHand(t *testing.T) {
	for _, x := range []byHand{
		{"a(b|c)* ab?", "abcab", "03", "12,12,12,4,", "01234", "00011", -1}, // the chapter's
		{"()", "", "", "", "", "", 0},
		{"a", "a", "0", "", "0", "0", -1},
		{"ab", "ab", "0", "1,", "1", "00", -1},
		{"abc", "abc", "0", "1,2,", "2", "000", -1},
		{"a|b", "ab", "01", ",", "01", "00", -1},
		{"ab|cd", "abcd", "02", "1,,3,", "13", "0000", -1},
		{"(a|b)(c|d)", "abcd", "01", "23,23,,", "23", "0000", -1},
		{"a|()", "a", "0", "", "0", "0", 0},
		{"()|a", "a", "0", "", "0", "0", 0},
		{"(a|())b", "ab", "01", "1,", "1", "00", -1},
		{"a()b", "ab", "0", "1,", "1", "00", -1},
		{"()a()", "a", "0", "", "0", "0", -1},
		{"a?", "a", "0", "", "0", "0", 0},
		{"a?b", "ab", "01", "1,", "1", "00", -1},
		{"ab?", "ab", "0", "1,", "01", "00", -1},
		{"a?b?", "ab", "01", "1,", "01", "00", 0},
		{"a?b?c?", "abc", "012", "12,2,", "012", "000", 0},
		{"ab?c", "abc", "0", "12,2,", "2", "000", -1},
		{"ab?c?d", "abcd", "0", "123,23,3,", "3", "0000", -1},
		{"(ab)?c", "abc", "02", "1,2,", "2", "000", -1},
		{"a*", "a", "0", "0", "0", "0", 0},
		{"a+", "a", "0", "0", "0", "0", -1},
		{"a*b*", "ab", "01", "01,1", "01", "00", 0},
		{"a*ba*", "aba", "01", "01,2,2", "12", "000", -1},
		{"(ab)*", "ab", "0", "1,0", "1", "00", 0},
		{"(ab)+", "ab", "0", "1,0", "1", "00", -1},
		{"(a|b)*", "ab", "01", "01,01", "01", "00", 0},
		{"(a|b)*c", "abc", "012", "012,012,", "2", "000", -1},
		{"(a*)*", "a", "0", "0", "0", "0", 0},
		{"(a?)+", "a", "0", "0", "0", "0", 0},
		{"(a*b*)+", "ab", "01", "01,01", "01", "00", 0},
		{"(ab?)*", "ab", "0", "01,0", "01", "00", 0},
		{"(a?b)*", "ab", "01", "1,01", "1", "00", 0},
		{"(ab|c)*d", "abcd", "023", "1,023,023,", "3", "0000", -1},
		{"(a(bc)*)*", "abc", "0", "01,2,01", "02", "000", 0},
		{"a{0}", "", "", "", "", "", 0},
		{"a{0}b", "b", "0", "", "0", "0", -1},
		{"ab{0}", "a", "0", "", "0", "0", -1},
		{"a{1}", "a", "0", "", "0", "0", -1},
		{"a{2}", "aa", "0", "1,", "1", "00", -1},
		{"(ab){2}", "abab", "0", "1,2,3,", "3", "0000", -1},
		{"(a{2}){2}", "aaaa", "0", "1,2,3,", "3", "0000", -1},
		{"a{0,2}", "aa", "0", "1,", "01", "00", 0},
		{"a{0,3}", "aaa", "0", "1,2,", "012", "000", 0},
		{"a{0,3}b", "aaab", "03", "13,23,3,", "3", "0000", -1},
		{"a{1,3}", "aaa", "0", "1,2,", "012", "000", -1},
		{"a{2,4}", "aaaa", "0", "1,2,3,", "123", "0000", -1},
		{"ba{1,2}b", "baab", "0", "1,23,3,", "3", "0000", -1},
		{"a{1,}", "a", "0", "0", "0", "0", -1},
		{"a{2,}", "aa", "0", "1,1", "1", "00", -1},
		{"a{3,}", "aaa", "0", "1,2,2", "2", "000", -1},
		{"(ab){2,}", "abab", "0", "1,2,3,2", "3", "0000", -1},
		{"(a|b){2,}", "abab", "01", "23,23,23,23", "23", "0000", -1},
		{"(a?){2}", "aa", "01", "1,", "01", "00", 0},
		{"(a?){3}", "aaa", "012", "12,2,", "012", "000", 0},
		{"(a?){0,2}", "aa", "01", "1,", "01", "00", 0},
		{"(a?){1,2}", "aa", "01", "1,", "01", "00", 0},
		{"(a?){2,}", "aa", "01", "1,1", "01", "00", 0},
		{"(a*){2}", "aa", "01", "01,1", "01", "00", 0},
		{"(a+){2}", "aa", "0", "01,1", "1", "00", -1},
		{"(a+){0,2}", "aa", "0", "01,1", "01", "00", 0},
		{"(a?b){0,2}", "abab", "01", "1,23,3,", "13", "0000", 0},
		{"(ab?){1,2}", "abab", "0", "12,2,3,", "0123", "0000", -1},
		{"(a?b?){2}", "abab", "0123", "123,23,3,", "0123", "0000", 0},
		{"(a{0,2}){2}", "aaaa", "02", "12,2,3,", "0123", "0000", 0},
		{"(a{2,})*", "aa", "0", "1,01", "1", "00", 0},
		{"(a{1,2})*", "aa", "0", "01,0", "01", "00", 0},
		{"(a+b?){2}", "abab", "0", "012,2,23,", "23", "0000", -1},
		{"((ab*)?c){2}", "abcabc", "02", "12,12,35,45,45,", "5", "000000", -1},
		{"a b* c?", "abc", "012", ",1,", "012", "012", 1},
		{"() ()", "", "", "", "", "", 0},
		{"a ()", "a", "0", "", "0", "0", 1},
		{"() a", "a", "0", "", "0", "1", 0},
		{"a () a* a{2}", "aaaa", "012", ",1,3,", "013", "0233", 1},
	} {
		var texts []string
		texts = append(texts, strings.Split(x.rules, " ")...)
		rules, want := parsed(t, texts...), x.nfa(t)
		if got, e := nfa.Build(rules); e != api.OK || !same(got, want) {
			t.Errorf("%s: %d, %s, want %s", x.rules, e, shown(got), shown(want))
		}
		if model := modelOf(rules...); !same(model, want) {
			t.Errorf("%s: the model has %s, want %s", x.rules, shown(model), shown(want))
		}
	}
}

// A place is one, whether its Set has bytes or not.
func TestBuildOfSets(t *testing.T) {
	all, void := octs.Range(0, 255), api.Set{}
	n := built(t, cat(one(), one('a'), star(one())), cat(maybe(api.Re{Kind: api.ReByte, Set: all}), alt(one(), one(0, 64, 128, 255))))
	want := nfa.Nfa{
		Sets:   []api.Set{void, octs.Of('a'), void, all, void, octs.Of(0, 64, 128, 255)},
		Rules:  []int{0, 0, 0, 1, 1, 1},
		First:  []int{0, 3, 4, 5},
		Follow: [][]int{{1}, {2}, {2}, {4, 5}, nil, nil},
		Ends:   []bool{false, true, true, false, true, true},
		Empty:  -1,
	}
	if !same(n, want) {
		t.Error(shown(n), n.Sets)
	}
	if n := built(t, star(one())); n.Empty != 0 || len(n.Sets) != 1 {
		t.Error("a loop of no byte:", shown(n))
	}
}

func TestBuildAgainstModel(t *testing.T) {
	c, great, left := newChance(2), 0, 0
	for range 8000 {
		rules := c.rules(80)
		want := modelOf(rules...)
		got, e := nfa.Build(rules)
		if e != api.OK || !same(got, want) {
			t.Fatalf("Build(%v): %d, %s, want %s", rules, e, shown(got), shown(want))
		}
		if len(want.Sets) > 20 {
			great++
		}
		if want.Empty > 0 {
			left++
		}
	}
	if great < 500 || left < 500 {
		t.Error("too few automata of many places, or with a later rule that may be empty:", great, left)
	}
}

func TestBuildOfEachBound(t *testing.T) {
	for _, text := range []string{"a", "a?", "ab?", "a?b", "a*"} {
		sub := parsed(t, text)[0]
		for lo := range api.MaxRep + 1 {
			for _, hi := range []int{-1, lo, lo + 1, lo + 2, api.MaxRep} {
				if hi > api.MaxRep || lo > 4 && lo < api.MaxRep-2 && lo%16 != 0 {
					continue
				}
				re := rep(sub, lo, hi)
				if got, want := built(t, re), modelOf(re); !same(got, want) {
					t.Errorf("%s, %d to %d: %s, want %s", text, lo, hi, shown(got), shown(want))
				}
			}
		}
	}
}

func TestBuildOfManyRules(t *testing.T) {
	var rules []api.Re
	for i := range api.MaxRules {
		rules = append(rules, cat(one(byte(i)), maybe(one('a'))))
	}
	n := built(t, rules...)
	if !same(n, modelOf(rules...)) || len(n.First) != 40 || n.First[39] != 78 || n.Rules[79] != 39 || n.Empty != -1 {
		t.Error("40 rules:", shown(n))
	}
	rules[39] = api.Re{}
	if n := built(t, rules...); n.Empty != 39 || len(n.Sets) != 78 {
		t.Error("40 rules, the last one empty:", shown(n))
	}
	if n, e := nfa.Build(append(rules, one('a'))); e != api.ErrArg || !isZero(n) {
		t.Error("41 rules:", e, shown(n))
	}
	if n, e := nfa.Build(nil); e != api.ErrArg || !isZero(n) {
		t.Error("no rule:", e, shown(n))
	}
	if n, e := nfa.Build([]api.Re{}); e != api.ErrArg || !isZero(n) {
		t.Error("no rule, not nil:", e, shown(n))
	}
}

func TestBuildOfManyPlaces(t *testing.T) {
	a := one('a')
	just := rep(rep(a, 50, 50), 40, 40)
	over := cat(just, a)
	huge := nested(a, func(re api.Re) api.Re { return rep(re, 64, 64) })
	var hugest []api.Re
	for range api.MaxRules {
		hugest = append(hugest, huge)
	}
	for _, x := range []struct {
		name  string
		rules []api.Re
		e     api.Errno
	}{
		{"2,000", []api.Re{just}, api.OK},
		{"2,000, and none", []api.Re{{}, just, star(api.Re{}), rep(just, 0, 0)}, api.OK},
		{"2,000 of two rules", []api.Re{rep(rep(a, 50, 50), 20, 20), rep(rep(a, 20, -1), 0, 50)}, api.OK},
		{"2,001", []api.Re{over}, api.ErrMany},
		{"2,001 of two rules", []api.Re{just, a}, api.ErrMany},
		{"2,001 of two rules, the greater one behind", []api.Re{a, just}, api.ErrMany},
		{"2,001 of which one has no byte", []api.Re{just, one()}, api.ErrMany},
		{"more than are counted", []api.Re{huge}, api.ErrMany},
		{"more than are counted, 40 times", hugest, api.ErrMany},
	} {
		n, e := nfa.Build(x.rules)
		if e != x.e || e != api.OK && !isZero(n) {
			t.Errorf("%s: %d, %s", x.name, e, shown(n))
		}
		if e == api.OK && (len(n.Sets) != api.MaxNfa || !nfa.May(n)) {
			t.Errorf("%s: %s", x.name, shown(n))
		}
	}
}

func TestBuildOfWrongRules(t *testing.T) {
	a := one('a')
	many := rep(rep(a, 64, 64), 64, 64)
	for i, re := range mayNotBe() {
		for _, rules := range [][]api.Re{{re}, {re, a}, {a, re}, {a, a, re, a}, {many, re}, {re, many}} {
			if n, e := nfa.Build(rules); e != api.ErrArg || !isZero(n) {
				t.Errorf("tree %d among %d: %d, %s", i, len(rules), e, shown(n))
			}
		}
	}
	if n, e := nfa.Build(slices.Repeat([]api.Re{many}, 41)); e != api.ErrArg || !isZero(n) {
		t.Error("41 rules of many places:", e, shown(n))
	}
}

// What is written out has more nodes than could be gone along, or as many places, and what follows them, as may be.
func TestBuildOfGreatTrees(t *testing.T) {
	for _, around := range []func(api.Re) api.Re{
		func(re api.Re) api.Re { return rep(re, 64, 64) },
		func(re api.Re) api.Re { return rep(re, 64, -1) },
		func(re api.Re) api.Re { return rep(cat(re, api.Re{}, re), 64, 64) },
		func(re api.Re) api.Re { return rep(alt(re, api.Re{}), 0, 64) },
	} {
		re := api.Re{}
		for rx.May(around(re)) {
			re = around(re)
		}
		if n := built(t, re, one('a')); !same(n, modelOf(api.Re{}, one('a'))) {
			t.Error("of no place:", shown(n))
		}
	}
	a := one('a')
	row := rep(rep(maybe(a), 50, 50), 40, 40)
	loops := nested(row, func(re api.Re) api.Re { return alt(star(re), api.Re{}) })
	for _, x := range []struct {
		name  string
		re    api.Re
		least func(p int) int
	}{
		{"a row", row, func(p int) int { return p + 1 }},
		{"a row, once and once", nested(row, func(re api.Re) api.Re { return rep(re, 1, 1) }), func(p int) int { return p + 1 }},
		{"a loop", star(row), func(int) int { return 0 }},
		{"loops", loops, func(int) int { return 0 }},
	} {
		n := built(t, x.re)
		if len(n.First) != 2000 || n.Empty != 0 || !nfa.May(n) || slices.Contains(n.Ends, false) {
			t.Errorf("%s: %s", x.name, shown(n))
		}
		for p, row := range n.Follow {
			if least := x.least(p); len(row) != 2000-least || len(row) > 0 && row[0] != least {
				t.Fatalf("%s: behind %d come %d", x.name, p, len(row))
			}
		}
		if at, tag := nfa.Run(n, strings.Repeat("a", 20)); tag != 0 || len(at) != 2000-max(0, 19*x.least(0)) {
			t.Errorf("%s: %d, %d", x.name, len(at), tag)
		}
	}
}

// P8.2

// spoilt is automata that may not be, each by one thing, of one that may.
func spoilt() map[string]nfa.Nfa {
	l := map[string]nfa.Nfa{}
	spoil := func(name string, how func(n *nfa.Nfa)) {
		n := good()
		how(&n)
		l[name] = n
	}
	spoil("a Set less", func(n *nfa.Nfa) { n.Sets = n.Sets[:3] })
	spoil("a Set more", func(n *nfa.Nfa) { n.Sets = append(n.Sets, api.Set{}) })
	spoil("no Set", func(n *nfa.Nfa) { n.Sets = nil })
	spoil("a rule less", func(n *nfa.Nfa) { n.Rules = n.Rules[:3] })
	spoil("a rule more", func(n *nfa.Nfa) { n.Rules = append(n.Rules, 0) })
	spoil("no rule", func(n *nfa.Nfa) { n.Rules = nil })
	spoil("a row less", func(n *nfa.Nfa) { n.Follow = n.Follow[:3] })
	spoil("a row more", func(n *nfa.Nfa) { n.Follow = append(n.Follow, nil) })
	spoil("no row", func(n *nfa.Nfa) { n.Follow = nil })
	spoil("an end less", func(n *nfa.Nfa) { n.Ends = n.Ends[:3] })
	spoil("an end more", func(n *nfa.Nfa) { n.Ends = append(n.Ends, true) })
	spoil("no end", func(n *nfa.Nfa) { n.Ends = nil })
	for _, rule := range []int{-1, api.MaxRules, math.MinInt, math.MaxInt} {
		for p := range 4 {
			spoil("rule "+strconv.Itoa(rule)+" at "+strconv.Itoa(p), func(n *nfa.Nfa) { n.Rules[p] = rule })
		}
	}
	for _, empty := range []int{-2, api.MaxRules, math.MinInt, math.MaxInt} {
		spoil("empty "+strconv.Itoa(empty), func(n *nfa.Nfa) { n.Empty = empty })
	}
	for i, row := range wrongRows(4) {
		spoil("first, wrong row "+strconv.Itoa(i), func(n *nfa.Nfa) { n.First = row })
		for p := range 4 {
			spoil("behind "+strconv.Itoa(p)+", wrong row "+strconv.Itoa(i), func(n *nfa.Nfa) { n.Follow[p] = row })
		}
	}
	return l
}

// good is an automaton of 4 places.
func good() nfa.Nfa {
	a := octs.Of('a')
	return nfa.Nfa{
		Sets:   []api.Set{a, a, a, a},
		Rules:  []int{2, 0, 39, 1},
		First:  []int{0, 1, 3},
		Follow: [][]int{{0, 1, 2, 3}, {1}, {}, {0, 3}},
		Ends:   []bool{true, true, true, true},
		Empty:  39,
	}
}

// wrongRows is rows that aren't rising places of so many.
func wrongRows(all int) [][]int {
	return [][]int{
		{all}, {-1}, {math.MaxInt}, {math.MinInt}, {0, all}, {0, 1, all + 1}, {-1, 0}, {math.MinInt, 1},
		{0, 0}, {1, 0}, {0, 2, 1}, {0, 1, 1}, {1, 1, 2}, {2, 1, 3}, {0, 1, 2, 3, 3}, {0, 1, 2, -1}, {0, 1, math.MaxInt}, {0, 1, 2, 3, 4}, {2, math.MinInt},
	}
}

func TestMay(t *testing.T) {
	if !nfa.May(good()) {
		t.Fatal("a good one")
	}
	for name, n := range spoilt() {
		if nfa.May(n) {
			t.Error(name)
		}
	}
	for _, n := range []nfa.Nfa{
		{},
		{Empty: -1},
		{Empty: 39},
		{Sets: []api.Set{}, Rules: []int{}, First: []int{}, Follow: [][]int{}, Ends: []bool{}, Empty: 3},
		{Sets: make([]api.Set, 1), Rules: []int{39}, Follow: [][]int{nil}, Ends: []bool{true}},
		{Sets: make([]api.Set, 1), Rules: []int{0}, First: []int{0}, Follow: [][]int{{0}}, Ends: []bool{false}, Empty: -1},
	} {
		if !nfa.May(n) {
			t.Error("may be:", shown(n))
		}
	}
	for i, row := range wrongRows(0) {
		if nfa.May(nfa.Nfa{First: row}) {
			t.Error("of no place, wrong row", i)
		}
	}
}

func TestMayAtTheLimit(t *testing.T) {
	every := make([]int, api.MaxNfa+1)
	for p := range every {
		every[p] = p
	}
	of := func(all int) nfa.Nfa {
		n := nfa.Nfa{Sets: make([]api.Set, all), Rules: make([]int, all), First: every[:all], Follow: make([][]int, all), Ends: make([]bool, all)}
		n.Follow[all-1] = every[:all]
		return n
	}
	if !nfa.May(of(api.MaxNfa)) || nfa.May(of(api.MaxNfa+1)) {
		t.Error("2,000:", nfa.May(of(api.MaxNfa)), "2,001:", nfa.May(of(api.MaxNfa+1)))
	}
	n := of(api.MaxNfa)
	n.Follow[api.MaxNfa-1] = every
	if nfa.May(n) {
		t.Error("a row that has one place too many")
	}
}

func TestMayOfWhatIsBuilt(t *testing.T) {
	c := newChance(3)
	for range 2000 {
		if n := built(t, c.rules(300)...); !nfa.May(n) {
			t.Fatal(shown(n))
		}
		if n := c.nfa(); !nfa.May(n) {
			t.Fatal(shown(n))
		}
	}
}

// P8.3

func TestRunExample(t *testing.T) {
	n := built(t, parsed(t, "a(b|c)*", "ab?")...)
	if at, tag := nfa.Run(n, "ab"); !slices.Equal(at, []int{1, 4}) || tag != 0 {
		t.Error("ab:", at, tag)
	}
	if at, tag := nfa.Run(n, "abb"); !slices.Equal(at, []int{1}) || tag != 0 {
		t.Error("abb:", at, tag)
	}
	if at, tag := nfa.Run(n, "b"); len(at) != 0 || tag != -1 {
		t.Error("b:", at, tag)
	}
	if l := nfa.Begin(n, 'a'); !slices.Equal(l, []int{0, 3}) {
		t.Error("Begin:", l)
	}
	if l := nfa.Go(n, []int{0, 3}, 'b'); !slices.Equal(l, []int{1, 4}) {
		t.Error("Go:", l)
	}
	if l := nfa.Go(n, []int{0, 3}, 'c'); !slices.Equal(l, []int{2}) {
		t.Error("Go:", l)
	}
	if tag := nfa.Tag(n, []int{3, 4}); tag != 1 {
		t.Error("Tag:", tag)
	}
}

func TestRunOfNoByte(t *testing.T) {
	for empty := -1; empty < api.MaxRules; empty++ {
		n := good()
		n.Empty = empty
		if at, tag := nfa.Run(n, ""); len(at) != 0 || tag != empty {
			t.Error(empty, at, tag)
		}
		if at, tag := nfa.Run(n, "b"); len(at) != 0 || tag != -1 {
			t.Error("behind a byte of none:", empty, at, tag)
		}
		if at, tag := nfa.Run(n, "aba"); len(at) != 0 || tag != -1 {
			t.Error("behind a byte of none and another one:", empty, at, tag)
		}
		if tag := nfa.Tag(n, nil); tag != -1 {
			t.Error("of no place:", empty, tag)
		}
	}
	if at, tag := nfa.Run(nfa.Nfa{}, ""); len(at) != 0 || tag != 0 {
		t.Error("a zero one:", at, tag)
	}
	if at, tag := nfa.Run(nfa.Nfa{}, "a"); len(at) != 0 || tag != -1 {
		t.Error("a zero one, behind a byte:", at, tag)
	}
}

func TestStepsOfAnyAutomaton(t *testing.T) {
	c := newChance(4)
	for range 20000 {
		n := c.nfa()
		b := []byte("ab\x00\x3f\x40\xff")[c.Intn(6)]
		at := c.row(len(n.Sets), 1+c.Intn(4))
		if got, want := nfa.Begin(n, b), beginModel(n, b); !slices.Equal(got, want) {
			t.Fatalf("Begin(%s, %d): %v, want %v", shown(n), b, got, want)
		}
		if got, want := nfa.Go(n, at, b), goModel(n, at, b); !slices.Equal(got, want) {
			t.Fatalf("Go(%s, %v, %d): %v, want %v", shown(n), at, b, got, want)
		}
		if got, want := nfa.Tag(n, at), tagModel(n, at); got != want {
			t.Fatalf("Tag(%s, %v): %d, want %d", shown(n), at, got, want)
		}
		s := c.text("aaabbb\xff", 6)
		at, tag := nfa.Run(n, s)
		if want, last := runModel(n, s); !slices.Equal(at, want) || tag != last {
			t.Fatalf("Run(%s, %q): %v, %d, want %v, %d", shown(n), s, at, tag, want, last)
		}
	}
}

// Each byte is in the Set that has it, and in no other one.
func TestStepsOfEachByte(t *testing.T) {
	n := nfa.Nfa{Empty: -1}
	for b := range 256 {
		n.Sets = append(n.Sets, octs.Of(byte(b)))
		n.First, n.Rules = append(n.First, b), append(n.Rules, b%40)
		n.Ends = append(n.Ends, true)
	}
	for range 256 {
		n.Follow = append(n.Follow, n.First)
	}
	for b := range 256 {
		if l := nfa.Begin(n, byte(b)); !slices.Equal(l, []int{b}) {
			t.Error("Begin:", b, l)
		}
		if l := nfa.Go(n, []int{7, 200}, byte(b)); !slices.Equal(l, []int{b}) {
			t.Error("Go:", b, l)
		}
		if l, tag := nfa.Run(n, "\xff\x00"+string([]byte{byte(b)})); !slices.Equal(l, []int{b}) || tag != b%40 {
			t.Error("Run:", b, l, tag)
		}
	}
}

// refuses asks that nothing is told of what may not be.
func refuses(t *testing.T, name string, n nfa.Nfa, at []int) {
	t.Helper()
	if l := nfa.Go(n, at, 'a'); len(l) != 0 {
		t.Errorf("%s: Go: %v", name, l)
	}
	if tag := nfa.Tag(n, at); tag != -1 {
		t.Errorf("%s: Tag: %d", name, tag)
	}
}

func TestStepsOfWrongPlaces(t *testing.T) {
	n := good()
	if l, tag := nfa.Go(n, []int{0, 1, 2, 3}, 'a'), nfa.Tag(n, []int{0, 1, 2, 3}); len(l) != 4 || tag != 0 {
		t.Fatal("right ones:", l, tag)
	}
	for i, row := range wrongRows(4) {
		refuses(t, "row "+strconv.Itoa(i), n, row)
	}
	for i, row := range wrongRows(0) {
		refuses(t, "of no place, row "+strconv.Itoa(i), nfa.Nfa{}, row)
	}
}

func TestStepsOfWrongAutomata(t *testing.T) {
	for name, n := range spoilt() {
		for _, at := range [][]int{nil, {0}, {0, 1}, {1}, {1, 2, 3}, {3}, {0, 1, 2, 3}, {4}, {-1}} {
			refuses(t, name, n, at)
		}
		if l := nfa.Begin(n, 'a'); len(l) != 0 {
			t.Errorf("%s: Begin: %v", name, l)
		}
		for _, s := range []string{"", "a", "b", "aaa"} {
			if l, tag := nfa.Run(n, s); len(l) != 0 || tag != -1 {
				t.Errorf("%s: Run(%q): %v, %d", name, s, l, tag)
			}
		}
	}
}

func TestLongRuns(t *testing.T) {
	n := built(t, parsed(t, "(a{3})*", "(a{5})+b?")...)
	for _, x := range []struct{ as, tag int }{{0, 0}, {100_000, 1}, {99_999, 0}, {99_990, 0}, {99_998, -1}} {
		if _, tag := nfa.Run(n, strings.Repeat("a", x.as)); tag != x.tag {
			t.Error(x.as, tag)
		}
	}
	if at, tag := nfa.Run(n, strings.Repeat("a", 99_990)+"b"); !slices.Equal(at, []int{8}) || tag != 1 {
		t.Error("b behind:", at, tag)
	}
	if at, tag := nfa.Run(n, "b"+strings.Repeat("a", 1<<24)); len(at) != 0 || tag != -1 {
		t.Error("b ahead:", at, tag)
	}
}

// P8.4

// firstRule is the first rule one of whose texts s is.
func firstRule(rules []api.Re, s string) int {
	return slices.IndexFunc(rules, func(re api.Re) bool { return lang.Takes(re, s) })
}

func TestTagsByHand(t *testing.T) {
	for _, x := range []struct {
		rules []string
		tags  map[string]int
	}{
		{[]string{"a(b|c)*", "ab?"}, map[string]int{"": -1, "a": 0, "ab": 0, "abcb": 0, "b": -1, "aba": -1}},
		{[]string{"ab?", "a(b|c)*"}, map[string]int{"a": 0, "ab": 0, "abb": 1, "acb": 1, "ad": -1}},
		{[]string{"if", "[a-z]+"}, map[string]int{"i": 1, "if": 0, "iff": 1, "fi": 1, "": -1, "I": -1}},
		{[]string{"[a-z]+", "if"}, map[string]int{"i": 0, "if": 0, "iff": 0}},
		{[]string{"a{2}", "a{3,}", "a*"}, map[string]int{"": 2, "a": 2, "aa": 0, "aaa": 1, "aaaa": 1}},
		{[]string{"a{0,2}b", "(a?b?){3}", ".*"}, map[string]int{"": 1, "b": 0, "aab": 0, "aaab": 1, "aaaab": 2, "ababab": 1, "bbb": 1, "bbbb": 2, "\xff": 2}},
		{[]string{"[]", "[]*", "a[]|b"}, map[string]int{"": 1, "a": -1, "b": 2, "ab": -1}},
		{[]string{"\\r\\n", ".\\x00"}, map[string]int{"\r\n": 0, "\r\x00": 1, "\n\x00": 1, "\x00": -1, "\x00\x00": 1}},
	} {
		rules := parsed(t, x.rules...)
		n := built(t, rules...)
		for s, want := range x.tags {
			if _, tag := nfa.Run(n, s); tag != want || firstRule(rules, s) != want {
				t.Errorf("%v: %q: %d, want %d", x.rules, s, tag, want)
			}
		}
	}
}

func TestTagsAgainstTexts(t *testing.T) {
	c, asked, tagged := newChance(5), append(over("ab", 5), over("abc", 3)...), 0
	for range 1000 {
		rules := c.rules(150)
		n := built(t, rules...)
		for _, s := range asked {
			_, tag := nfa.Run(n, s)
			if want := firstRule(rules, s); tag != want {
				t.Fatalf("%v: %q: %d, want %d", rules, s, tag, want)
			}
			if tag > 0 {
				tagged++
			}
		}
	}
	if tagged < 5000 {
		t.Error("too few texts of a rule behind the first one:", tagged)
	}
}

func TestTagsOfLongerTexts(t *testing.T) {
	c := newChance(6)
	for range 300 {
		rules := []api.Re{rep(c.tree(3), 2, 5), star(c.tree(4)), rep(c.tree(4), 1, -1)}
		n, e := nfa.Build(rules)
		if e != api.OK {
			continue
		}
		for range 40 {
			s := c.text("aaabbbc", 30)
			if _, tag := nfa.Run(n, s); tag != firstRule(rules, s) {
				t.Fatalf("%v: %q: %d, want %d", rules, s, tag, firstRule(rules, s))
			}
		}
	}
}

// Rule 5, memory, and rule 6

func TestWhatIsHandedInStays(t *testing.T) {
	c := newChance(7)
	for range 500 {
		rules := c.rules(60)
		room := append(slices.Clone(rules), one('r'), one('s'))
		var before []api.Re
		for _, re := range room {
			before = append(before, copied(re))
		}
		n := built(t, room[:len(rules)]...)
		for i, re := range room {
			if !rx.Same(re, before[i]) {
				t.Fatal("Build changed a rule, or the room behind:", i)
			}
		}
		kept := own(n)
		for i := range room {
			scribble(&room[i])
		}
		if !same(n, kept) {
			t.Fatal("an automaton has memory of its rules")
		}
	}
}

// scribble changes all that a tree's memory has.
func scribble(re *api.Re) {
	for i := range re.Sub {
		scribble(&re.Sub[i])
	}
	*re = api.Re{Kind: 77, Set: octs.Of('x'), Sub: re.Sub, Min: 77, Max: 77}
}

func TestAnswersAreApart(t *testing.T) {
	c := newChance(8)
	for range 500 {
		rules := c.rules(40)
		n, other := built(t, rules...), built(t, rules...)
		kept := own(n)
		if !same(n, other) {
			t.Fatal("of the same rules another automaton")
		}
		for p, row := range n.Follow {
			_ = append(row, -7, -7, -7)
			if !same(n, kept) {
				t.Fatal("a row that grows comes into another one:", p)
			}
		}
		_, _ = append(n.First, -7, -7, -7), append(n.Rules, -7, -7, -7)
		_, _ = append(n.Sets, octs.Of('x')), append(n.Ends, true)
		if !same(n, kept) {
			t.Fatal("a list that grows comes into another one")
		}
		for p, row := range n.Follow {
			for i := range row {
				row[i] = -7 - p
			}
			kept.Follow[p] = row
			if !same(n, kept) {
				t.Fatal("what follows shares memory:", p)
			}
		}
		for i := range n.First {
			n.First[i] = -9
		}
		for i := range n.Rules {
			n.Rules[i] = -9
		}
		kept.First, kept.Rules = n.First, n.Rules
		if !same(n, kept) || same(n, other) && len(n.Sets) > 0 {
			t.Fatal("lists share memory")
		}
		if !same(other, built(t, rules...)) {
			t.Fatal("two answers share memory")
		}
	}
}

// roomy is an automaton each of whose lists has room behind it, that is told apart by what stands there.
func roomy(n nfa.Nfa) (nfa.Nfa, func() bool) {
	n = own(n)
	row := func(l []int) []int { return append(slices.Clone(l), -5)[:len(l)] }
	n.Rules, n.First = row(n.Rules), row(n.First)
	n.Sets = append(n.Sets, octs.Of('r'))[:len(n.Sets)]
	n.Ends = append(n.Ends, true)[:len(n.Ends)]
	for p := range n.Follow {
		n.Follow[p] = row(n.Follow[p])
	}
	kept, all := own(n), len(n.Sets)
	return n, func() bool {
		ok := same(n, kept) && n.Rules[:all+1][all] == -5 && n.First[:len(n.First)+1][len(n.First)] == -5
		ok = ok && n.Sets[:all+1][all] == octs.Of('r') && n.Ends[:all+1][all]
		for _, l := range n.Follow {
			ok = ok && l[:len(l)+1][len(l)] == -5
		}
		return ok
	}
}

func TestStepsShareNothing(t *testing.T) {
	c := newChance(9)
	for range 3000 {
		n, stays := roomy(c.nfa())
		at := c.row(len(n.Sets), 2)
		room := append(slices.Clone(at), -5)
		s := c.text("aab", 4)
		for range 2 { // what was told is scribbled on ahead of the second time
			begin, behind := nfa.Begin(n, 'a'), nfa.Go(n, room[:len(at)], 'a')
			run, _ := nfa.Run(n, s)
			want, _ := runModel(n, s)
			if !slices.Equal(begin, beginModel(n, 'a')) || !slices.Equal(behind, goModel(n, at, 'a')) || !slices.Equal(run, want) {
				t.Fatal("another answer the second time")
			}
			nfa.Tag(n, room[:len(at)])
			nfa.May(n)
			for _, l := range [][]int{begin, behind, run} {
				l = append(l, -6)
				for i := range l {
					l[i] = -6
				}
			}
			if !stays() || !slices.Equal(room, append(slices.Clone(at), -5)) {
				t.Fatal("what was handed in was changed")
			}
		}
	}
}
