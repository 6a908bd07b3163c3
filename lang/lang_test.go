package lang_test

import (
	"maps"
	"math"
	"math/rand"
	"reflect"
	"runtime/debug"
	"slices"
	"strings"
	"testing"

	"hackle/api"
	"hackle/lang"
	"hackle/octs"
)

// The trees of these tests are literals, so that nothing hangs on the calls that make trees.

func one(bs ...byte) api.Re  { return api.Re{Kind: api.ReByte, Set: octs.Of(bs...)} }
func cat(l ...api.Re) api.Re { return api.Re{Kind: api.ReCat, Sub: l} }
func alt(l ...api.Re) api.Re { return api.Re{Kind: api.ReAlt, Sub: l} }
func void() api.Re           { return api.Re{Kind: api.ReByte} }
func rep(re api.Re, lo, hi int) api.Re {
	return api.Re{Kind: api.ReRep, Sub: []api.Re{re}, Min: lo, Max: hi}
}
func maybe(re api.Re) api.Re { return rep(re, 0, 1) }
func star(re api.Re) api.Re  { return rep(re, 0, -1) }
func plus(re api.Re) api.Re  { return rep(re, 1, -1) }

// text is the tree of a text of two bytes or more.
func text(s string) api.Re {
	var l []api.Re
	for _, b := range []byte(s) {
		l = append(l, one(b))
	}
	return cat(l...)
}

// texts is some texts, each cut to so many bytes: a text of just so many stands for all that begin with it.
type texts map[string]bool

func (l texts) add(m texts) {
	for s := range m {
		l[s] = true
	}
}

func (l texts) then(m texts, cut int) texts {
	all := texts{}
	for s := range l {
		for t := range m {
			all[(s + t)[:min(len(s)+len(t), cut)]] = true
		}
	}
	return all
}

func (l texts) within(m texts) bool {
	for s := range l {
		if !m[s] {
			return false
		}
	}
	return true
}

func (l texts) begins(s string) bool {
	for t := range l {
		if strings.HasPrefix(t, s) {
			return true
		}
	}
	return false
}

// textsOf is the texts of re as chapter 4's Words tell them.
func textsOf(re api.Re, cut int) texts {
	all := texts{}
	switch re.Kind {
	case api.ReEmpty:
		all[""] = true
	case api.ReByte:
		for _, b := range octs.Bytes(re.Set) {
			all[string([]byte{b})] = true
		}
	case api.ReCat:
		all[""] = true
		for _, sub := range re.Sub {
			all = all.then(textsOf(sub, cut), cut)
		}
	case api.ReAlt:
		for _, sub := range re.Sub {
			all.add(textsOf(sub, cut))
		}
	case api.ReRep:
		sub, row := textsOf(re.Sub[0], cut), texts{"": true}
		for i := 0; re.Max == -1 || i <= re.Max; i++ {
			if i >= re.Min {
				if re.Max == -1 && row.within(all) {
					break
				}
				all.add(row)
			}
			row = row.then(sub, cut)
		}
	}
	return all
}

// over is all texts over some bytes, of at most so many.
func over(bytes string, most int) []string {
	all := []string{""}
	for i := 0; i < len(all); i++ {
		if len(all[i]) < most {
			for _, b := range []byte(bytes) {
				all = append(all, all[i]+string([]byte{b}))
			}
		}
	}
	return all
}

func randomTree(source *rand.Rand, deep int) api.Re {
	kind := source.Intn(7) % 5 // no more of one kind than of another, but of ReEmpty and ReByte
	if deep == 1 {
		kind = (source.Intn(6) + 4) / 5
	}
	re := api.Re{Kind: kind}
	switch kind {
	case api.ReByte:
		re.Set = []api.Set{{}, octs.Of('a', 'b'), octs.Of('a'), octs.Of('a'), octs.Of('b'), octs.Of('b')}[source.Intn(6)]
	case api.ReCat, api.ReAlt:
		for range 2 + source.Intn(2) {
			re.Sub = append(re.Sub, randomTree(source, deep-1))
		}
	case api.ReRep:
		re.Sub = []api.Re{randomTree(source, deep-1)}
		re.Min = source.Intn(4)
		re.Max = re.Min + source.Intn(4) - 1
		if re.Max < re.Min {
			re.Max = -1
		}
	}
	return re
}

func randomTrees(n int) []api.Re {
	source := rand.New(rand.NewSource(5))
	var l []api.Re
	for len(l) < n {
		if re := randomTree(source, 1+source.Intn(5)); nodes(re) <= api.MaxNodes {
			l = append(l, re)
		}
	}
	return l
}

func nodes(re api.Re) int {
	n := 1
	for _, sub := range re.Sub {
		n += nodes(sub)
	}
	return n
}

// copied is a tree in memory of its own.
func copied(re api.Re) api.Re {
	var sub []api.Re
	for _, s := range re.Sub {
		sub = append(sub, copied(s))
	}
	re.Sub = sub
	return re
}

// against holds all answers of a text against what the texts of re are; these are cut to more bytes than s has.
func against(t *testing.T, re api.Re, all texts, s string) {
	t.Helper()
	for at := range len(s) + 1 {
		var want []int
		for end := at; end <= len(s); end++ {
			if all[s[at:end]] {
				want = append(want, end)
			}
		}
		if l, e := lang.Ends(re, s, at); e != api.OK || !slices.Equal(l, want) {
			t.Fatalf("Ends(%v, %q, %d): %v %d, want %v", re, s, at, l, e, want)
		}
	}
	longest := -1
	for end := range len(s) + 1 {
		if all[s[:end]] {
			longest = end
		}
	}
	if got := lang.Longest(re, s); got != longest {
		t.Fatalf("Longest(%v, %q): %d, want %d", re, s, got, longest)
	}
	if got := lang.Takes(re, s); got != all[s] {
		t.Fatalf("Takes(%v, %q): %v", re, s, got)
	}
	if got := lang.Begins(re, s); got != all.begins(s) {
		t.Fatalf("Begins(%v, %q): %v", re, s, got)
	}
}

// P5.1 and P5.2

func TestChapterExamples(t *testing.T) {
	ab := star(text("ab"))
	if l, e := lang.Ends(ab, "ababa", 0); e != api.OK || !slices.Equal(l, []int{0, 2, 4}) {
		t.Error("Ends:", l, e)
	}
	if lang.Longest(ab, "abb") != 2 || !lang.Begins(ab, "aba") || lang.Begins(ab, "abb") {
		t.Error("Longest, Begins:", lang.Longest(ab, "abb"), lang.Begins(ab, "aba"), lang.Begins(ab, "abb"))
	}
}

func TestAgainstWords(t *testing.T) {
	asked := append(over("ab", 5), over("abc", 3)...)
	for _, re := range randomTrees(1000) {
		all := textsOf(re, 6)
		for _, s := range asked {
			against(t, re, all, s)
		}
	}
}

func TestByHand(t *testing.T) {
	a, b := one('a'), one('b')
	for _, x := range []struct {
		name string
		re   api.Re
	}{
		{"empty", api.Re{}},
		{"byte", a},
		{"byte of two", one('a', 'b')},
		{"byte of none", void()},
		{"alike ones", alt(a, a, text("aa"), plus(a))},
		{"empty ones in a row", cat(api.Re{}, api.Re{}, a, api.Re{})},
		{"all kinds", cat(alt(a, text("ba")), rep(alt(b, api.Re{}), 1, 2), star(a))},
		{"none of what is void", rep(void(), 0, 0)},
		{"void or empty", star(void())},
		{"void once", plus(void())},
		{"void at the end", cat(a, void())},
		{"void at the end of one", alt(cat(a, void()), text("ba"))},
		{"void within a loop", star(cat(a, void()))},
		{"void within one of a loop", star(alt(cat(a, b, void()), text("ab"), b))},
		{"void within counted ones", rep(alt(text("ab"), cat(text("bb"), void())), 2, 3)},
		{"void that may be left out", cat(a, maybe(void()), b)},
		{"no time", rep(a, 0, 0)},
		{"no time, then another one", cat(rep(a, 0, 0), b)},
		{"once", rep(text("ab"), 1, 1)},
		{"twice", rep(text("ab"), 2, 2)},
		{"twice to three times", rep(alt(a, text("bb")), 2, 3)},
		{"up to three times", rep(alt(a, text("bb")), 0, 3)},
		{"three times and more", rep(alt(a, text("bb")), 3, -1)},
		{"three times at most, none taken", rep(maybe(a), 3, 3)},
		{"at least four, none taken", rep(maybe(a), 4, -1)},
		{"loop within loop", star(star(a))},
		{"loop of what may be empty", plus(alt(api.Re{}, a, cat(star(a), b)))},
		{"loop twice", cat(star(a), star(a), plus(b))},
		{"counted within a loop", star(cat(rep(a, 2, 3), maybe(b)))},
		{"counted within counted", rep(rep(a, 2, 2), 2, 2)},
		{"a gap between counts", rep(rep(a, 3, 3), 0, 1)},
		{"loop within counted", rep(cat(star(a), b), 2, 2)},
		{"counted, none within counted", cat(rep(rep(maybe(a), 2, 2), 2, 2), b)},
		{"counted behind a loop", cat(star(a), rep(text("aa"), 0, 2))},
		{"counted behind a loop, more than once", cat(star(text("ab")), rep(alt(a, text("ba")), 0, 3))},
		{"counted behind counted", cat(rep(a, 1, 2), rep(a, 0, 2), rep(b, 2, 2))},
	} {
		t.Run(x.name, func(t *testing.T) {
			all := textsOf(x.re, 8)
			for _, s := range append(over("ab", 7), "c", "ac", "aac", "c"+"a") {
				against(t, x.re, all, s)
			}
		})
	}
}

// What one way of reading a chapter's word tells, each.
func TestOneByOne(t *testing.T) {
	a := one('a')
	for _, x := range []struct {
		re      api.Re
		s       string
		longest int
		begins  bool
	}{
		{api.Re{}, "", 0, true},
		{api.Re{}, "a", 0, false},
		{a, "", -1, true},
		{a, "a", 1, true},
		{a, "aa", 1, false},
		{a, "b", -1, false},
		{void(), "", -1, false},
		{void(), "a", -1, false},
		{cat(a, void()), "a", -1, false},
		{cat(a, void()), "", -1, false},
		{cat(a, star(void())), "a", 1, true},
		{cat(a, star(void())), "", -1, true},
		{plus(void()), "", -1, false},
		{rep(void(), 0, 0), "", 0, true},
		{alt(text("abc"), text("ab")), "abc", 3, true},
		{alt(text("ab"), text("abc")), "abcd", 3, false},
		{alt(text("ab"), text("abcd")), "abc", 2, true},
		{rep(a, 3, 5), "aa", -1, true},
		{rep(a, 3, 5), "aaa", 3, true},
		{rep(a, 3, 5), "aaaaa", 5, true},
		{rep(a, 3, 5), "aaaaaa", 5, false},
		{rep(a, 64, 64), strings.Repeat("a", 63), -1, true},
		{rep(a, 64, 64), strings.Repeat("a", 64), 64, true},
		{rep(a, 64, 64), strings.Repeat("a", 65), 64, false},
		{rep(a, 0, 64), strings.Repeat("a", 65), 64, false},
		{rep(a, 64, -1), strings.Repeat("a", 63), -1, true},
		{rep(a, 64, -1), strings.Repeat("a", 65), 65, true},
		{rep(a, 0, 0), "a", 0, false},
		{rep(maybe(a), 64, 64), "aaa", 3, true},
		{rep(maybe(a), 64, 64), strings.Repeat("a", 65), 64, false},
	} {
		taken := x.longest == len(x.s)
		if lang.Longest(x.re, x.s) != x.longest || lang.Begins(x.re, x.s) != x.begins || lang.Takes(x.re, x.s) != taken {
			t.Errorf("%v of %q: %d %v %v", x.re, x.s, lang.Longest(x.re, x.s), lang.Begins(x.re, x.s), lang.Takes(x.re, x.s))
		}
	}
}

func TestPlaces(t *testing.T) {
	re := star(text("ab"))
	for _, x := range []struct {
		at   int
		want []int
	}{
		{0, []int{0}},
		{1, []int{1, 3, 5}},
		{2, []int{2}},
		{3, []int{3, 5}},
		{5, []int{5}},
		{6, []int{6}},
	} {
		if l, e := lang.Ends(re, "aababb", x.at); e != api.OK || !slices.Equal(l, x.want) {
			t.Errorf("Ends at %d: %v %d", x.at, l, e)
		}
	}
	for _, x := range []struct {
		s  string
		at int
	}{{"aababb", -1}, {"aababb", 7}, {"", -1}, {"", 1}, {"ab", math.MinInt}, {"ab", math.MaxInt}} {
		if l, e := lang.Ends(re, x.s, x.at); e != api.ErrArg || len(l) != 0 {
			t.Errorf("Ends(%q, %d): %v %d", x.s, x.at, l, e)
		}
	}
	if l, e := lang.Ends(re, "", 0); e != api.OK || !slices.Equal(l, []int{0}) {
		t.Error("of no byte:", l, e)
	}
	if l, e := lang.Ends(void(), "ab", 2); e != api.OK || len(l) != 0 {
		t.Error("no text is no error:", l, e)
	}
	if l, e := lang.Ends(one('b'), "ab", 2); e != api.OK || len(l) != 0 {
		t.Error("none behind the last byte:", l, e)
	}
}

// Texts are bytes, whatever runes they would be.
func TestAllBytes(t *testing.T) {
	for b := range 256 {
		s := string([]byte{byte(b)})
		re, others := one(byte(b)), api.Re{Kind: api.ReByte, Set: octs.Not(octs.Of(byte(b)))}
		if !lang.Takes(re, s) || !lang.Begins(re, s) || lang.Longest(re, s+s) != 1 || !lang.Takes(plus(re), s+s+s) {
			t.Error("byte", b)
		}
		if lang.Takes(others, s) || lang.Begins(others, s) || lang.Longest(others, s) != -1 {
			t.Error("all but", b)
		}
	}
	any := api.Re{Kind: api.ReByte, Set: octs.Range(0, 255)}
	for _, s := range []string{"\u00e9", "\xff\xfe", "\xc3", "\x00\x00", "\u65e5\u672c"} {
		if lang.Longest(star(any), s) != len(s) || !lang.Takes(rep(any, len(s), len(s)), s) || lang.Takes(rep(any, len(s)-1, len(s)-1), s) {
			t.Errorf("%q", s)
		}
	}
	if l, _ := lang.Ends(star(any), "\u00e9\u00e9", 1); !slices.Equal(l, []int{1, 2, 3, 4}) {
		t.Error("within a rune:", l)
	}
}

// Of longer texts, whose counts stand for something, all texts of a tree are too many: so each is gone along with the text alone.

type places map[int]bool

// follow is the places at which texts of re end that begin at some places, as chapter 4's Words tell them, and whether one goes on behind the text's end.
func follow(re api.Re, s string, from places) (places, bool) {
	ends, beyond := places{}, false
	switch {
	case noText(re):
	case re.Kind == api.ReEmpty:
		return from, false
	case re.Kind == api.ReByte:
		for at := range from {
			if at == len(s) {
				beyond = true
			} else if octs.Has(re.Set, s[at]) {
				ends[at+1] = true
			}
		}
	case re.Kind == api.ReCat:
		ends = from
		for _, sub := range re.Sub {
			next, more := follow(sub, s, ends)
			ends, beyond = next, beyond || more
		}
	case re.Kind == api.ReAlt:
		for _, sub := range re.Sub {
			next, more := follow(sub, s, from)
			beyond = beyond || more
			for at := range next {
				ends[at] = true
			}
		}
	case re.Kind == api.ReRep:
		for i := 0; re.Max == -1 && i <= re.Min+len(s) || i <= re.Max; i++ {
			for at := range from {
				ends[at] = ends[at] || i >= re.Min
			}
			if i != re.Max {
				next, more := follow(re.Sub[0], s, from)
				from, beyond = next, beyond || more
			}
		}
	}
	for at, ended := range ends {
		if !ended {
			delete(ends, at)
		}
	}
	return ends, beyond
}

func noText(re api.Re) bool {
	switch re.Kind {
	case api.ReByte:
		return re.Set == api.Set{}
	case api.ReCat:
		return slices.ContainsFunc(re.Sub, noText)
	case api.ReAlt:
		return !slices.ContainsFunc(re.Sub, func(sub api.Re) bool { return !noText(sub) })
	case api.ReRep:
		return re.Min > 0 && noText(re.Sub[0])
	}
	return false
}

func begun(re api.Re, s string) bool {
	all, beyond := follow(re, s, places{0: true})
	return beyond || all[len(s)]
}

// grown is a text that begins one of re's, as long as that goes; at times, another byte stands behind it.
func grown(source *rand.Rand, re api.Re, most int) string {
	s := ""
	for len(s) < most {
		letter := []string{"a", "b"}[source.Intn(2)]
		if !begun(re, s+letter) && source.Intn(4) > 0 {
			letter = string("ba"[letter[0]-'a'])
		}
		s += letter
		if !begun(re, s) {
			break
		}
	}
	return s
}

func TestLongerTextsAgainstWords(t *testing.T) {
	source := rand.New(rand.NewSource(52))
	long := 0
	for range 1500 {
		re := cat(randomTree(source, 3), rep(alt(randomTree(source, 3), randomTree(source, 2)), source.Intn(3), 3+source.Intn(4)))
		for range 4 {
			s := grown(source, re, source.Intn(20))
			at := source.Intn(len(s) + 1)
			want, _ := follow(re, s, places{at: true})
			if l, e := lang.Ends(re, s, at); e != api.OK || !slices.Equal(l, slices.Sorted(maps.Keys(want))) {
				t.Fatalf("Ends(%v, %q, %d): %v %d, want %v", re, s, at, l, e, want)
			}
			all, beyond := follow(re, s, places{0: true})
			if got := lang.Takes(re, s); got != all[len(s)] {
				t.Fatalf("Takes(%v, %q): %v", re, s, got)
			}
			if got := lang.Begins(re, s); got != (beyond || all[len(s)]) {
				t.Fatalf("Begins(%v, %q): %v", re, s, got)
			}
			if len(s) > 8 {
				long++
			}
		}
	}
	if long < 400 {
		t.Error("too few are long:", long)
	}
}

// How long the texts of one letter are tells which they are: so counts can be held against longer texts.

// lengths has the lengths of texts; the last one stands for all above it, too.
type lengths []bool

const longest = 140

func (l lengths) then(m lengths) lengths {
	all := make(lengths, longest+1)
	for i, a := range l {
		for j, b := range m {
			if a && b {
				all[min(i+j, longest)] = true
			}
		}
	}
	return all
}

func lengthsOf(re api.Re) lengths {
	all := make(lengths, longest+1)
	switch re.Kind {
	case api.ReEmpty:
		all[0] = true
	case api.ReByte:
		all[1] = re.Set != api.Set{}
	case api.ReCat:
		all[0] = true
		for _, sub := range re.Sub {
			all = all.then(lengthsOf(sub))
		}
	case api.ReAlt:
		for _, sub := range re.Sub {
			for i, has := range lengthsOf(sub) {
				all[i] = all[i] || has
			}
		}
	case api.ReRep:
		most := re.Max
		if most == -1 {
			most = re.Min + longest // one more byte each time, or none
		}
		sub, row := lengthsOf(re.Sub[0]), lengths{true}
		for i := range most + 1 {
			for j, has := range row {
				all[j] = all[j] || has && i >= re.Min
			}
			row = row.then(sub)
		}
	}
	return all
}

func counted(source *rand.Rand, deep int) api.Re {
	if deep == 1 {
		return one('a')
	}
	sub := counted(source, deep-1)
	switch source.Intn(5) {
	case 0:
		return cat(sub, counted(source, 1+source.Intn(deep-1)))
	case 1:
		return alt(counted(source, 1+source.Intn(deep-1)), sub)
	}
	x := [][2]int{{0, 0}, {0, 1}, {1, 1}, {0, -1}, {1, -1}, {2, -1}, {7, -1}, {64, -1}, {2, 2}, {3, 5}, {0, 2}, {0, 63}, {1, 64}, {64, 64}, {63, 64}, {0, 64}}[source.Intn(16)]
	return rep(sub, x[0], x[1])
}

func TestCountsAgainstLengths(t *testing.T) {
	source := rand.New(rand.NewSource(51))
	for range 60 {
		re := counted(source, 2+source.Intn(4))
		all := lengthsOf(re)
		for _, n := range []int{0, 1, 2, 3, 62, 63, 64, 65, 66, 127, 128, 129, longest - 1} {
			s := strings.Repeat("a", n)
			var want []int
			for i := range n + 1 {
				if all[i] {
					want = append(want, i)
				}
			}
			if l, e := lang.Ends(re, s, 0); e != api.OK || !slices.Equal(l, want) {
				t.Fatalf("Ends(%v, %d bytes): %v %d, want %v", re, n, l, e, want)
			}
			if got := lang.Begins(re, s); got != slices.Contains(all[n:], true) {
				t.Fatalf("Begins(%v, %d bytes): %v", re, n, got)
			}
		}
	}
}

// Trees that may not be

func TestTreesThatMayNotBe(t *testing.T) {
	a := one('a')
	ring := make([]api.Re, 2)
	ring[0], ring[1] = cat(ring...), cat(ring...)
	deep := a
	for range 30 {
		deep = maybe(deep)
	}
	doubled := a
	for range 62 {
		doubled = cat(doubled, doubled)
	}
	for name, re := range map[string]api.Re{
		"kind 5":             {Kind: 5},
		"kind -1":            {Kind: -1},
		"the greatest kind":  {Kind: math.MaxInt},
		"empty with a set":   {Set: octs.Of('a')},
		"empty with a sub":   {Sub: []api.Re{a}},
		"byte with a min":    {Kind: api.ReByte, Set: octs.Of('a'), Min: 1},
		"cat of one":         cat(a),
		"cat of none":        cat(),
		"alt of one":         alt(a),
		"rep of none":        {Kind: api.ReRep, Max: 1},
		"rep of two":         {Kind: api.ReRep, Max: 1, Sub: []api.Re{a, a}},
		"rep 2 1":            rep(a, 2, 1),
		"rep -1 1":           rep(a, -1, 1),
		"rep 0 -2":           rep(a, 0, -2),
		"rep 0 65":           rep(a, 0, 65),
		"rep 65 -1":          rep(a, 65, -1),
		"31 deep":            deep,
		"301 nodes":          cat(slices.Repeat([]api.Re{a}, 300)...),
		"very many nodes":    doubled,
		"within itself":      ring[0],
		"a wrong one within": alt(a, cat(a, rep(api.Re{Kind: 9}, 0, 0))),
		"a wrong void one":   alt(a, cat(void(), api.Re{Kind: 9})),
	} {
		for _, s := range []string{"", "a", "aa"} {
			for _, at := range []int{0, len(s), -1, len(s) + 1} {
				if l, e := lang.Ends(re, s, at); e != api.ErrArg || len(l) != 0 {
					t.Errorf("%s: Ends(%q, %d): %v %d", name, s, at, l, e)
				}
			}
			if lang.Takes(re, s) || lang.Begins(re, s) || lang.Longest(re, s) != -1 {
				t.Errorf("%s: %q: %v %v %d", name, s, lang.Takes(re, s), lang.Begins(re, s), lang.Longest(re, s))
			}
		}
	}
	// The greatest ones that may be.
	if re := deep.Sub[0]; !lang.Takes(re, "a") || lang.Takes(re, "aa") {
		t.Error("30 deep")
	}
	if re := cat(slices.Repeat([]api.Re{a}, 299)...); !lang.Takes(re, strings.Repeat("a", 299)) || lang.Begins(re, strings.Repeat("a", 300)) {
		t.Error("300 nodes")
	}
}

// P5.3

func TestWhatFollows(t *testing.T) {
	asked := append(over("ab", 6), over("abc", 3)...)
	for _, re := range randomTrees(400) {
		begun := map[string]bool{}
		for _, s := range asked { // shorter ones first, of each kind
			begun[s] = lang.Begins(re, s)
			if begun[s] && s != "" && !begun[s[:len(s)-1]] {
				t.Fatalf("%v: %q begins a text, but not without its last byte", re, s)
			}
			if lang.Takes(re, s) && !begun[s] {
				t.Fatalf("%v takes %q, which begins none", re, s)
			}
		}
	}
}

// The texts grow as long as they begin one: so they are longer ones.
func TestWhatFollowsOfLongerTexts(t *testing.T) {
	source := rand.New(rand.NewSource(53))
	for _, re := range randomTrees(400) {
		s := ""
		for len(s) < 40 {
			a, b := lang.Begins(re, s+"a"), lang.Begins(re, s+"b")
			if (a || b || lang.Takes(re, s)) != lang.Begins(re, s) {
				t.Fatalf("%v: what begins a text is one, or begins a longer one: %q", re, s)
			}
			if !a && !b {
				break
			}
			if a && (!b || source.Intn(2) == 0) {
				s += "a"
			} else {
				s += "b"
			}
		}
		for end := range len(s) {
			if !lang.Begins(re, s[:end]) {
				t.Fatalf("%v: %q begins a text, but %q doesn't", re, s, s[:end])
			}
		}
	}
}

// The rules that hold everywhere

// nested is a tree as deep as may be.
func nested(around func(api.Re) api.Re) api.Re {
	re := one('a')
	for {
		next := around(re)
		if depth(next) > api.MaxDeep {
			return re
		}
		re = next
	}
}

func depth(re api.Re) int {
	most := 0
	for _, sub := range re.Sub {
		most = max(most, depth(sub))
	}
	return most + 1
}

// Each call ends, though the counts of parts within each other have more rows than could be gone through.
func TestCountsWithinEachOther(t *testing.T) {
	s := strings.Repeat("a", 70)
	for _, x := range []struct {
		lo, hi  int
		longest int
	}{
		{0, 1, 1}, {0, 2, 70}, {0, 64, 70}, {1, 1, 1}, {1, 2, 70}, {1, 64, 70}, {0, -1, 70}, {1, -1, 70},
		{2, 2, -1}, {2, 3, -1}, {2, -1, -1}, {64, 64, -1}, {63, 64, -1}, {64, -1, -1}, {0, 0, 0},
	} {
		re := nested(func(re api.Re) api.Re { return rep(re, x.lo, x.hi) })
		begins := x.hi > 1 || x.hi == -1
		if lang.Longest(re, s) != x.longest || lang.Begins(re, s) != begins || lang.Takes(re, s) != (x.longest == 70) {
			t.Errorf("%d to %d times: %d %v", x.lo, x.hi, lang.Longest(re, s), lang.Begins(re, s))
		}
		if lang.Begins(re, s+"b") || lang.Takes(re, s+"b") {
			t.Errorf("%d to %d times, another byte behind", x.lo, x.hi)
		}
		other := nested(func(re api.Re) api.Re { return rep(alt(one('b'), re, one('b')), x.lo, x.hi) })
		if lang.Begins(other, s) != begins {
			t.Errorf("%d to %d times, others beside: %v", x.lo, x.hi, lang.Begins(other, s))
		}
	}
}

// Of parts that may be empty the least numbers of times are nothing.
func TestCountsOfNoneWithinEachOther(t *testing.T) {
	s := strings.Repeat("a", 70)
	for _, x := range [][2]int{{0, 2}, {0, 64}, {0, -1}, {1, 2}, {1, -1}, {2, 2}, {2, -1}, {64, 64}, {63, 64}, {64, -1}} {
		re := nested(func(re api.Re) api.Re { return rep(maybe(re), x[0], x[1]) })
		if !lang.Takes(re, s) || !lang.Takes(re, "") || lang.Begins(re, s+"b") {
			t.Errorf("%d to %d times: %d", x[0], x[1], lang.Longest(re, s))
		}
	}
}

// Each call ends, though as many ways lead through the tree as none could go along.
func TestManyWays(t *testing.T) {
	a := one('a')
	most := 149
	all := strings.Repeat("a", most)
	row := cat(slices.Repeat([]api.Re{maybe(a)}, most)...)
	if l, e := lang.Ends(row, all+"a", 0); e != api.OK || len(l) != most+1 || l[most] != most {
		t.Error("each or none:", len(l), e)
	}
	if !lang.Takes(row, all) || lang.Begins(row, all+"a") {
		t.Error("each or none")
	}
	two := cat(slices.Repeat([]api.Re{alt(a, a)}, 99)...)
	if lang.Longest(two, all) != 99 || lang.Takes(two, all[:98]) || !lang.Begins(two, all[:98]) {
		t.Error("one or the same one")
	}
	for name, around := range map[string]func(api.Re) api.Re{
		"loops":                     star,
		"loops, once or more":       plus,
		"loops of two":              func(re api.Re) api.Re { return star(alt(re, a)) },
		"loops in a row":            func(re api.Re) api.Re { return cat(star(re), star(a)) },
		"loops once, or more, of 2": func(re api.Re) api.Re { return plus(alt(re, text("aa"))) },
		"loops of what may be none": func(re api.Re) api.Re { return plus(cat(maybe(re), maybe(a))) },
		"both kinds":                func(re api.Re) api.Re { return plus(star(re)) },
		"counted, then loops":       func(re api.Re) api.Re { return star(rep(re, 1, 3)) },
	} {
		re := nested(around)
		if !lang.Takes(re, all) || lang.Takes(re, all+"b") || lang.Begins(re, all+"b") || lang.Longest(re, all+"b") != most {
			t.Errorf("%s: %d", name, lang.Longest(re, all+"b"))
		}
	}
}

// Calls that nest a byte each would not end here.
func TestLongTexts(t *testing.T) {
	defer debug.SetMaxStack(debug.SetMaxStack(1 << 20))
	const long = 100000
	s := strings.Repeat("ab", long/2)
	both, letters := text("ab"), one('a', 'b')
	for name, re := range map[string]api.Re{
		"loop":             star(letters),
		"loop within loop": plus(star(letters)),
		"loop of two":      star(both),
		"loop of all":      star(alt(api.Re{}, one('a'), cat(one('b'), star(one('b'))))),
		"loop of counted":  star(cat(rep(both, 1, 2), maybe(both))),
		"counted loop":     rep(plus(letters), 1, 2),
		"64 or more":       rep(letters, 64, -1),
	} {
		if !lang.Takes(re, s) || lang.Takes(re, s+"c") || lang.Longest(re, s+"c") != long || !lang.Begins(re, s) || lang.Begins(re, s+"c") {
			t.Errorf("%s: %d", name, lang.Longest(re, s))
		}
	}
	if l, e := lang.Ends(star(both), s, 2); e != api.OK || len(l) != long/2 || l[0] != 2 || l[1] != 4 || l[len(l)-1] != long {
		t.Error("Ends:", len(l), e)
	}
	if lang.Longest(rep(letters, 2, 64), s) != 64 || lang.Begins(rep(both, 0, 64), s) {
		t.Error("counted ones of a long text")
	}
}

func TestMemory(t *testing.T) {
	for _, re := range append(randomTrees(100), star(text("ab")), rep(star(one('a')), 2, 3), one('a'), api.Re{}) {
		before := copied(re)
		first, _ := lang.Ends(re, "aabab", 0)
		want := slices.Clone(first)
		again, _ := lang.Ends(re, "aabab", 0)
		lang.Takes(re, "aab")
		lang.Begins(re, "aab")
		lang.Longest(re, "aab")
		if !reflect.DeepEqual(copied(re), before) {
			t.Fatalf("%v was changed", before)
		}
		for i := range again {
			again[i] = -7
		}
		_ = append(again, -7)
		if !slices.Equal(first, want) {
			t.Fatalf("two answers of %v share memory", re)
		}
		if third, _ := lang.Ends(re, "aabab", 0); !slices.Equal(third, want) {
			t.Fatalf("%v answers otherwise later: %v, want %v", re, third, want)
		}
	}
}
