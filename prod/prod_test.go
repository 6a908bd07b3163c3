package prod_test

import (
	"math"
	"slices"
	"strconv"
	"strings"
	"testing"

	"hackle/api"
	"hackle/class"
	"hackle/dfa"
	"hackle/lang"
	"hackle/mini"
	"hackle/octs"
	"hackle/prod"
)

func TestExample(t *testing.T) {
	a, b := ofTexts(t, "a|b+"), ofTexts(t, "b|c")
	if s, ok := prod.Both(a, b); s != "b" || !ok {
		t.Error("Both:", s, ok)
	}
	if s, ok := prod.Differ(a, b); s != "a" || !ok {
		t.Error("Differ:", s, ok)
	}
	if s, x, ok := prod.Over(ofTexts(t, "a", "ab"), 0, octs.Of('b')); s != "a" || x != 'b' || !ok {
		t.Error("Over:", s, x, ok)
	}
}

// P12.1

// none is an automaton without states.
func none(sets ...api.Set) dfa.Dfa {
	return dfa.Dfa{Classes: class.Part(sets...)}
}

// line is so many states, of one class, of which one leads to the next one, and the last one to some state; that has the tag 0.
func line(many, back int) dfa.Dfa {
	d := dfa.Dfa{Classes: class.Part()}
	for at := range many {
		d.Next, d.Tag = append(d.Next, []int{at + 1}), append(d.Tag, -1)
	}
	d.Next[many-1][0], d.Tag[many-1] = back, 0
	return d
}

func TestWalkByHand(t *testing.T) {
	high := dfa.Dfa{Classes: class.Part(octs.Range(128, 255), octs.Of(255)), Next: [][]int{{0, 1, 2}, {-1, -1, 2}, {-1, -1, -1}}, Tag: []int{-1, -1, -1}}
	for name, x := range map[string]struct {
		a, b dfa.Dfa
		want []prod.Pair
	}{
		"two of rules":              {ofTexts(t, "a|b+"), ofTexts(t, "b|c"), []prod.Pair{{0, 0, ""}, {1, -1, "a"}, {2, 1, "b"}, {-1, 2, "c"}, {2, -1, "bb"}}},
		"the other way":             {ofTexts(t, "b|c"), ofTexts(t, "a|b+"), []prod.Pair{{0, 0, ""}, {-1, 1, "a"}, {1, 2, "b"}, {2, -1, "c"}, {-1, 2, "bb"}}},
		"no states":                 {none(), none(octs.Of('a')), nil},
		"no states, then one":       {none(), line(1, -1), []prod.Pair{{-1, 0, ""}}},
		"one, then no states":       {line(1, -1), none(octs.Of('a')), []prod.Pair{{0, -1, ""}}},
		"one, round and round":      {line(1, 0), none(), []prod.Pair{{0, -1, ""}}},
		"one each":                  {line(1, 0), line(1, 0), []prod.Pair{{0, 0, ""}}},
		"one each, one goes on":     {line(1, 0), line(1, -1), []prod.Pair{{0, 0, ""}, {0, -1, "\x00"}}},
		"two and three":             {line(2, 0), line(3, 0), []prod.Pair{{0, 0, ""}, {1, 1, "\x00"}, {0, 2, "\x00\x00"}, {1, 0, "\x00\x00\x00"}, {0, 1, "\x00\x00\x00\x00"}, {1, 2, "\x00\x00\x00\x00\x00"}}},
		"two and four":              {line(2, 0), line(4, 0), []prod.Pair{{0, 0, ""}, {1, 1, "\x00"}, {0, 2, "\x00\x00"}, {1, 3, "\x00\x00\x00"}}},
		"the first one again":       {line(2, 0), none(), []prod.Pair{{0, -1, ""}, {1, -1, "\x00"}}},
		"not to the first one":      {line(3, 1), line(1, 0), []prod.Pair{{0, 0, ""}, {1, 0, "\x00"}, {2, 0, "\x00\x00"}}},
		"bytes from 128 on":         {high, none(), []prod.Pair{{0, -1, ""}, {1, -1, "\x80"}, {2, -1, "\xff"}}},
		"bytes from 128 on, second": {none(octs.Of('a')), high, []prod.Pair{{-1, 0, ""}, {-1, 1, "\x80"}, {-1, 2, "\xff"}}},
		"by bytes, not by states":   {ofTexts(t, "b[]|a"), none(), []prod.Pair{{0, -1, ""}, {1, -1, "a"}, {2, -1, "b"}}},
		"classes across":            {ofTexts(t, "[a-c]"), ofTexts(t, "[b-d]"), []prod.Pair{{0, 0, ""}, {1, -1, "a"}, {1, 1, "b"}, {-1, 1, "d"}}},
		"the short one first":       {ofTexts(t, "aaa|z"), ofTexts(t, "aab|zz"), []prod.Pair{{0, 0, ""}, {1, 1, "a"}, {2, 2, "z"}, {3, 3, "aa"}, {-1, 4, "zz"}, {4, -1, "aaa"}, {-1, 5, "aab"}}},
		"from none a way is none":   {ofTexts(t, "a"), ofTexts(t, "ba"), []prod.Pair{{0, 0, ""}, {1, -1, "a"}, {-1, 1, "b"}, {-1, 2, "ba"}}},
		"what isn't reached":        {dfa.Dfa{Classes: class.Part(), Next: [][]int{{-1}, {0}}, Tag: []int{0, 0}}, line(2, -1), []prod.Pair{{0, 0, ""}, {-1, 1, "\x00"}}},
	} {
		if got := prod.Walk(x.a, x.b); !slices.Equal(got, x.want) {
			t.Errorf("%s: %s, want %s", name, told(got...), told(x.want...))
		}
	}
}

func TestWalkAgainstModel(t *testing.T) {
	c := newChance(1)
	var got [3]int
	for i := range 15000 {
		a, b := c.dfa(8), c.dfa(8)
		if i%4 == 0 {
			b = c.near(a)
		}
		l, want := prod.Walk(a, b), walkModel(a, b, someBytes(a, b))
		if !slices.Equal(l, want) {
			t.Fatalf("%s: %s, want %s", shown(a, b), told(l...), told(want...))
		}
		if len(l) > 12 {
			got[0]++
		}
		if len(l) > 0 && len(l[len(l)-1].Text) > 5 {
			got[1]++
		}
		if slices.ContainsFunc(l, func(p prod.Pair) bool { return p.A < 0 }) && slices.ContainsFunc(l, func(p prod.Pair) bool { return p.B < 0 }) {
			got[2]++
		}
	}
	if slices.Min(got[:]) < 100 {
		t.Error("too few of many pairs, of long texts, of none in both:", got)
	}
}

// The model with all bytes, of which no one is taken for another one.
func TestWalkByAllBytes(t *testing.T) {
	c := newChance(2)
	for range 800 {
		a, b := c.dfa(5), c.dfa(5)
		if got, want := prod.Walk(a, b), walkModel(a, b, allBytes()); !slices.Equal(got, want) {
			t.Fatalf("%s: %s, want %s", shown(a, b), told(got...), told(want...))
		}
	}
}

// Each text of some bytes comes to a pair, whose own text is none behind it.
func TestWalkHasEachText(t *testing.T) {
	c, come := newChance(3), 0
	for range 300 {
		a, b := c.dfa(6), c.dfa(6)
		l := prod.Walk(a, b)
		for _, s := range over([]byte("\x00ab\xff"), 4) {
			at := slices.IndexFunc(l, func(p prod.Pair) bool { return p.A == dfa.Run(a, s) && p.B == dfa.Run(b, s) })
			if gone := dfa.Run(a, s) < 0 && dfa.Run(b, s) < 0; gone != (at < 0) || !gone && byText(l[at].Text, s) > 0 {
				t.Fatalf("%s: %q: %s", shown(a, b), s, told(l...))
			}
			if at > 0 {
				come++
			}
		}
		for _, p := range l {
			if dfa.Run(a, p.Text) != p.A || dfa.Run(b, p.Text) != p.B {
				t.Fatalf("%s: %s", shown(a, b), told(p))
			}
		}
	}
	if come < 10000 {
		t.Error("too few come to a pair:", come)
	}
}

// each is the partition that tells all bytes apart.
func each() class.Classes {
	var l []api.Set
	for b := range 256 {
		l = append(l, octs.Of(byte(b)))
	}
	return class.Part(l...)
}

func TestWalkByEachByte(t *testing.T) {
	d := dfa.Dfa{Classes: each(), Next: [][]int{make([]int, 256)}, Tag: []int{-1}}
	for b := range 256 {
		d.Next[0][b] = b + 1
		d.Next, d.Tag = append(d.Next, slices.Repeat([]int{-1}, 256)), append(d.Tag, -1)
	}
	even := []byte{}
	for b := 0; b < 256; b += 2 {
		even = append(even, byte(b))
	}
	two := dfa.Dfa{Classes: class.Part(octs.Of(even...)), Next: [][]int{{1, -1}, {-1, -1}}, Tag: []int{-1, -1}}
	for _, l := range [][]prod.Pair{prod.Walk(d, two), turnedRound(prod.Walk(two, d))} {
		if len(l) != 257 || l[0] != (prod.Pair{}) {
			t.Fatal(len(l), l[0])
		}
		for b, p := range l[1:] {
			to := 1
			if b%2 == 1 {
				to = -1
			}
			if p != (prod.Pair{A: b + 1, B: to, Text: string([]byte{byte(b)})}) {
				t.Fatal(b, p)
			}
		}
	}
}

// turnedRound is pairs of the same automata, the second one first.
func turnedRound(l []prod.Pair) []prod.Pair {
	for i, p := range l {
		l[i].A, l[i].B = p.B, p.A
	}
	return l
}

// All states at once that there may be: 600 times 600, and those with none.
func TestWalkOfAllStates(t *testing.T) {
	a := dfa.Dfa{Classes: class.Part(octs.Of('a'), octs.Of('b'), octs.Of('c'), octs.Of('d'))} // by a to the next one, by c to none
	b := dfa.Dfa{Classes: a.Classes}                                                          // by b to the next one, by d to none
	for at := range api.MaxStates {
		next := (at + 1) % api.MaxStates
		a.Next, a.Tag = append(a.Next, []int{-1, next, at, -1, at}), append(a.Tag, -1)
		b.Next, b.Tag = append(b.Next, []int{-1, at, next, at, -1}), append(b.Tag, -1)
	}
	l := prod.Walk(a, b)
	if len(l) != 601*601-1 {
		t.Fatal(len(l))
	}
	for i, p := range l {
		want := strings.Repeat("a", max(p.A, 0)) + strings.Repeat("b", max(p.B, 0))
		if p.A < 0 {
			want += "c"
		} else if p.B < 0 {
			want += "d"
		}
		if p.Text != want || i > 0 && byText(l[i-1].Text, p.Text) >= 0 {
			t.Fatalf("%s, want %q", told(p), want)
		}
	}
}

// By bytes of 256 classes each, at random: held against where the texts come to.
func TestWalkOfManyClasses(t *testing.T) {
	c := newChance(4)
	random := func(many int) dfa.Dfa {
		d := dfa.Dfa{Classes: each()}
		for range many {
			row := make([]int, 256)
			for k := range row {
				row[k] = c.Intn(many+1) - 1
			}
			d.Next, d.Tag = append(d.Next, row), append(d.Tag, c.tag(60))
		}
		return d
	}
	a, b := random(150), random(170)
	l := prod.Walk(a, b)
	if len(l) != 151*171-1 {
		t.Fatal(len(l))
	}
	for i, p := range l {
		if i > 0 && byText(l[i-1].Text, p.Text) >= 0 {
			t.Fatal(told(l[i-1], p))
		}
		if i%50 == 0 && (dfa.Run(a, p.Text) != p.A || dfa.Run(b, p.Text) != p.B) {
			t.Fatal(told(p))
		}
	}
	for name, x := range asked() {
		s, ok := x.tell(a, b)
		if want, ok1 := askModel(a, b, l, x.asked); s != want || !ok || !ok1 {
			t.Errorf("%s: %q, %v, want %q", name, s, ok, want)
		}
	}
}

// Texts that are almost as many bytes, in all, as are promised.
func TestWalkOfLongTexts(t *testing.T) {
	l := prod.Walk(line(250, 0), line(251, 0))
	if len(l) != 250*251 {
		t.Fatal(len(l))
	}
	all := strings.Repeat("\x00", len(l))
	for i, p := range l {
		if p.A != i%250 || p.B != i%251 || len(p.Text) != i || i%97 == 0 && p.Text != all[:i] {
			t.Fatal(i, p.A, p.B, len(p.Text))
		}
	}
}

// P12.2

// question is a function that tells the first text of which something holds, and what this is.
type question struct {
	tell  func(a, b dfa.Dfa) (string, bool)
	asked func(x, y int) bool
}

func asked() map[string]question {
	return map[string]question{
		"Both":    {prod.Both, bothTake},
		"Differ":  {prod.Differ, tagsDiffer},
		"Within":  {prod.Within, firstAlone},
		"Without": {func(a, b dfa.Dfa) (string, bool) { return prod.Within(b, a) }, func(x, y int) bool { return firstAlone(y, x) }},
	}
}

func TestFirstTextsByHand(t *testing.T) {
	const no = "-"
	for _, x := range []struct {
		a, b                          []string
		both, differ, within, without string
	}{
		{[]string{"a|b+"}, []string{"b|c"}, "b", "a", "a", "c"},
		{[]string{"ab"}, []string{"a"}, no, "a", "ab", "a"},
		{[]string{"a"}, []string{"a"}, "a", no, no, no},
		{[]string{"a*"}, []string{"a+|()"}, "", no, no, no},
		{[]string{"(ab)*"}, []string{"()|a(ba)*b"}, "", no, no, no},
		{[]string{"a*"}, []string{"a+"}, "a", "", "", no},
		{[]string{"a+"}, []string{"a*"}, "a", "", no, ""},
		{[]string{"[]"}, []string{"[]"}, no, no, no, no},
		{[]string{"[]"}, []string{"a"}, no, "a", no, "a"},
		{[]string{"a", "b"}, []string{"b", "a"}, "a", "a", no, no},
		{[]string{"a", "b"}, []string{"[ab]"}, "a", "b", no, no},
		{[]string{"[]", "a"}, []string{"a"}, "a", "a", no, no},
		{[]string{"()", "a"}, []string{"[]", "()|a"}, "", "", no, no},
		{[]string{"()", "a"}, []string{"()", "[]", "a"}, "", "a", no, no},
		{[]string{"a", "b"}, []string{"a", "b", "a|b"}, "a", no, no, no},
		{[]string{"z|aaa"}, []string{"aaa|z"}, "z", no, no, no},
		{[]string{"zzz|aaaa"}, []string{"[az]{3,4}"}, "zzz", "aaa", no, "aaa"},
		{[]string{"cab|acb|bca"}, []string{"[abc]+"}, "acb", "a", no, "a"},
		{[]string{"(aaa)+"}, []string{"(aaaaa)+"}, strings.Repeat("a", 15), "aaa", "aaa", "aaaaa"},
		{[]string{"[b-y]"}, []string{"[x-z]"}, "x", "b", "b", "z"},
		{[]string{"."}, []string{"[\\x80-\\xff]"}, "\x80", "\x00", "\x00", no},
		{[]string{"[\\x00\\xff]."}, []string{"\\xff[^\\x00]"}, "\xff\x01", "\x00\x00", "\x00\x00", no},
		{[]string{".[^\\xff]"}, []string{".."}, "\x00\x00", "\x00\xff", no, "\x00\xff"},
		{[]string{"[^\\x00].|\\x00"}, []string{"\\x00|[^\\x00][^q]"}, "\x00", "\x01q", "\x01q", no},
		{[]string{"(a|b)*a(a|b)"}, []string{"(a|b)*b"}, "ab", "b", "aa", "b"},
	} {
		a, b := ofTexts(t, x.a...), ofTexts(t, x.b...)
		for name, want := range map[string]string{"Both": x.both, "Differ": x.differ, "Within": x.within, "Without": x.without} {
			s, ok := asked()[name].tell(a, b)
			if ok != (want != no) || ok && s != want || !ok && s != "" {
				t.Errorf("%s of %q and %q: %q, %v, want %q", name, x.a, x.b, s, ok, want)
			}
		}
	}
}

func TestFirstTextsWithoutStates(t *testing.T) {
	for name, x := range map[string]struct {
		a, b dfa.Dfa
		want map[string]string
	}{
		"both":                  {none(), none(octs.Of('a')), map[string]string{}},
		"the first one":         {none(octs.Of('b')), ofTexts(t, "ab"), map[string]string{"Differ": "ab", "Without": "ab"}},
		"the second one":        {ofTexts(t, "ab"), none(octs.Of('b')), map[string]string{"Differ": "ab", "Within": "ab"}},
		"and one without a tag": {none(), dfa.Dfa{Classes: class.Part(), Next: [][]int{{0}}, Tag: []int{-1}}, map[string]string{}},
		"and the empty text":    {none(), dfa.Dfa{Classes: class.Part(), Next: [][]int{{0}}, Tag: []int{39}}, map[string]string{"Differ": "", "Without": ""}},
	} {
		for q, f := range asked() {
			want, ok := x.want[q]
			if s, ok1 := f.tell(x.a, x.b); s != want || ok1 != ok {
				t.Errorf("%s: %s: %q, %v", name, q, s, ok1)
			}
		}
	}
}

func TestFirstTextsAgainstModel(t *testing.T) {
	c, got := newChance(5), map[string]int{}
	for i := range 15000 {
		a, b := c.dfa(8), c.dfa(8)
		if i%3 > 0 {
			b = c.near(a)
		}
		l := walkModel(a, b, someBytes(a, b))
		for name, x := range asked() {
			s, ok := x.tell(a, b)
			want, ok1 := askModel(a, b, l, x.asked)
			if s != want || ok != ok1 {
				t.Fatalf("%s: %s: %q, %v, want %q, %v", name, shown(a, b), s, ok, want, ok1)
			}
			if !ok {
				got[name+" none"]++
			} else if len(s) > 1 {
				got[name+" longer"]++
			}
		}
	}
	for name := range asked() {
		if got[name+" none"] < 200 || got[name+" longer"] < 100 {
			t.Error("too few of none, or of texts of some bytes:", got)
		}
	}
}

// All texts of some bytes are asked for their tags, one by one.
func TestFirstTextsAreFirst(t *testing.T) {
	c, some := newChance(6), 0
	for i := range 1000 {
		a, b := c.dfa(7), c.dfa(7)
		if i%2 > 0 {
			b = c.near(a)
		}
		texts := over([]byte("\x00\x01\x3fabc\x80\xff"), 3)
		for name, x := range asked() {
			s, ok := x.tell(a, b)
			if ok && !x.asked(dfa.Tag(a, s), dfa.Tag(b, s)) {
				t.Fatalf("%s: %s: %q", name, shown(a, b), s)
			}
			at := slices.IndexFunc(texts, func(z string) bool { return x.asked(dfa.Tag(a, z), dfa.Tag(b, z)) })
			if at < 0 && ok && len(s) <= 3 || at >= 0 && (!ok || s != texts[at]) {
				t.Fatalf("%s: %s: %q, %v", name, shown(a, b), s, ok)
			}
			some += min(max(at, 0), 1)
		}
	}
	if some < 300 {
		t.Error("too few of some bytes:", some)
	}
}

// Rules' own texts, as layer 5 has them.
func TestFirstTextsOfRules(t *testing.T) {
	c, texts, some := newChance(7), over([]byte("abc"), 4), 0
	for range 200 {
		l, k := parsed(t, c.expression(4)), parsed(t, c.expression(4))
		a, e := tried(l)
		b, e1 := tried(k)
		if e != api.OK || e1 != api.OK {
			continue
		}
		for name, x := range asked() {
			holds := func(s string) bool {
				tag := func(re api.Re) int { return map[bool]int{false: -1}[lang.Takes(re, s)] }
				return x.asked(tag(l[0]), tag(k[0]))
			}
			s, ok := x.tell(a, b)
			if ok && !holds(s) {
				t.Fatalf("%s: %v, %v: %q", name, l, k, s)
			}
			if first := slices.IndexFunc(texts, holds); first >= 0 && (!ok || byText(s, texts[first]) > 0) {
				t.Fatalf("%s: %v, %v: %q, %v, want %q", name, l, k, s, ok, texts[first])
			}
			some += min(len(s), 1)
		}
	}
	if some < 200 {
		t.Error("too few of some bytes:", some)
	}
}

// The longest texts that there may be of two rings.
func TestFirstTextsOfRings(t *testing.T) {
	a, b := line(599, 0), line(600, 0)
	for name, want := range map[string]int{"Both": 599*600 - 1, "Differ": 598, "Within": 598, "Without": 599} {
		if s, ok := asked()[name].tell(a, b); s != strings.Repeat("\x00", want) || !ok {
			t.Error(name, len(s), ok)
		}
	}
	a.Tag[598] = -1
	for name, want := range map[string]bool{"Both": false, "Differ": true, "Within": false, "Without": true} {
		if s, ok := asked()[name].tell(a, b); ok != want || len(s) != map[bool]int{true: 599}[want] {
			t.Error(name, len(s), ok)
		}
	}
	a = line(600, 0)
	for name, want := range map[string]bool{"Both": true, "Differ": false, "Within": false, "Without": false} {
		if s, ok := asked()[name].tell(a, b); ok != want || len(s) != map[bool]int{true: 599}[want] {
			t.Error(name, len(s), ok)
		}
	}
}

// P12.3

func TestOverByHand(t *testing.T) {
	all := octs.Range(0, 255)
	d := ofTexts(t, "a", "ab", "xy*")
	e := ofTexts(t, "a(b[]|c)?|ba")
	f := ofTexts(t, "k|ka|[b-d]", "ca[z]|c[\\x00x]|d[\\xfe\\xff]")
	back := dfa.Dfa{Classes: class.Part(octs.Of('a')), Next: [][]int{{1, 0}, {-1, 0}}, Tag: []int{39, -1}}
	for _, x := range []struct {
		d    dfa.Dfa
		rule int
		s    api.Set
		text string
		by   byte
		ok   bool
	}{
		{d, 0, octs.Of('b'), "a", 'b', true},
		{d, 0, octs.Of('b', 'c'), "a", 'b', true},
		{d, 0, all, "a", 'b', true},
		{d, 0, octs.Not(octs.Of('b')), "", 0, false},
		{d, 0, octs.Of('c'), "", 0, false},
		{d, 0, api.Set{}, "", 0, false},
		{d, 1, all, "", 0, false},
		{d, 2, all, "x", 'y', true},
		{d, 2, octs.Of('x'), "", 0, false},
		{d, 3, all, "", 0, false},
		{d, 39, all, "", 0, false},
		{d, 40, all, "", 0, false},
		{d, math.MaxInt, all, "", 0, false},
		{d, -1, all, "", 0, false},
		{d, -2, all, "", 0, false},
		{d, math.MinInt, all, "", 0, false},
		{e, 0, octs.Of('b'), "", 0, false},
		{e, 0, octs.Of('a', 'b', 'c'), "a", 'c', true},
		{e, 0, octs.Of('a', 'b'), "", 0, false},
		{f, 0, all, "c", 0, true},
		{f, 0, octs.Range(1, 255), "c", 'a', true},
		{f, 0, octs.Of('b', 'x', 'y'), "c", 'x', true},
		{f, 0, octs.Of('b', 'y', 255), "d", 255, true},
		{f, 0, octs.Of('b', 'y', 254, 255), "d", 254, true},
		{f, 0, octs.Of('b', 'y'), "", 0, false},
		{f, 0, octs.Of('a'), "c", 'a', true},
		{f, 1, all, "", 0, false},
		{ofTexts(t, "zz|a{5}", "z", "zza"), 0, all, "zz", 'a', true},
		{ofTexts(t, "zz|a{5}", "z", "zza"), 1, all, "z", 'z', true},
		{ofTexts(t, "zz|a{5}b?", "z"), 0, all, "aaaaa", 'b', true},
		{ofTexts(t, "zz|a{2}b?", "z"), 0, octs.Of('b'), "aa", 'b', true},
		{ofTexts(t, "(a|b){3}(cd)?"), 0, octs.Of('c'), "aaa", 'c', true},
		{ofTexts(t, "a|b", "ac|bd"), 0, octs.Of('d'), "b", 'd', true},
		{ofTexts(t, "a|b", "ac|bd"), 0, octs.Of('c', 'd'), "a", 'c', true},
		{ofTexts(t, "a*"), 0, octs.Of('a'), "", 'a', true},
		{ofTexts(t, "()", "ab"), 0, all, "", 'a', true},
		{ofTexts(t, "()", "ab"), 0, octs.Of('b'), "", 0, false},
		{ofTexts(t, "()", "a[]"), 0, all, "", 0, false},
		{ofTexts(t, ".+"), 0, all, "\x00", 0, true},
		{ofTexts(t, ".+"), 0, octs.Of(255), "\x00", 255, true},
		{ofTexts(t, "\\xff+"), 0, octs.Of(255), "\xff", 255, true},
		{ofTexts(t, "[]"), 0, all, "", 0, false},
		{back, 39, all, "", 0, true},
		{back, 39, octs.Of('a'), "", 'a', true},
		{back, 39, octs.Of(0), "", 0, true},
		{none(), 0, all, "", 0, false},
		{none(octs.Of('a')), -1, all, "", 0, false},
		{line(1, 0), 0, octs.Of(7), "", 7, true},
		{line(1, -1), 0, all, "", 0, false},
		{line(600, 0), 0, octs.Of(7), strings.Repeat("\x00", 599), 7, true},
		{line(600, 599), 0, octs.Of(200, 7), strings.Repeat("\x00", 599), 7, true},
		{line(600, -1), 0, all, "", 0, false},
	} {
		if text, by, ok := prod.Over(x.d, x.rule, x.s); text != x.text || by != x.by || ok != x.ok {
			t.Errorf("%s: %d, %v: %q, %d, %v, want %q, %d, %v", shown(x.d), x.rule, octs.Bytes(x.s), text, by, ok, x.text, x.by, x.ok)
		}
	}
}

// Behind a tag there is a state, but no text with a tag.
func TestOverToAStateAsNone(t *testing.T) {
	d := dfa.Dfa{
		Classes: class.Part(octs.Of('a'), octs.Of('b'), octs.Of('c')),
		Next:    [][]int{{-1, 1, 2, -1}, {3, 3, 3, 3}, {3, 4, -1, 0}, {3, 3, 3, 3}, {3, -1, 3, -1}, {0, 0, 0, 0}},
		Tag:     []int{-1, 0, 0, -1, 1, 0},
	}
	for _, x := range []struct {
		rule int
		s    api.Set
		text string
		by   byte
		ok   bool
	}{
		{0, octs.Range(0, 255), "b", 'a', true},
		{0, octs.Of('c'), "b", 'c', true},
		{0, octs.Of(0, 'b', 'd'), "", 0, false},
		{1, octs.Range(0, 255), "", 0, false},
	} {
		if text, by, ok := prod.Over(d, x.rule, x.s); text != x.text || by != x.by || ok != x.ok {
			t.Errorf("%d, %v: %q, %d, %v", x.rule, octs.Bytes(x.s), text, by, ok)
		}
	}
}

// bytesAtRandom is few bytes, very many, or some.
func (c chance) bytesAtRandom() api.Set {
	s := c.set()
	switch c.Intn(4) {
	case 0:
		s = octs.Not(s)
	case 1:
		s = api.Set{c.Uint64(), c.Uint64(), c.Uint64(), c.Uint64()}
	case 2:
		s = octs.Any(s, octs.Of(byte(c.Intn(256))))
	}
	return s
}

func TestOverAgainstModel(t *testing.T) {
	c := newChance(8)
	var got [3]int
	for range 15000 {
		d, rule, s := c.dfa(8), []int{0, 0, 0, 1, 39, -1, 2, 40}[c.Intn(8)], c.bytesAtRandom()
		text, by, ok := prod.Over(d, rule, s)
		want, by1, ok1 := overModel(d, rule, s)
		if text != want || by != by1 || ok != ok1 {
			t.Fatalf("%s: %d, %v: %q, %d, %v, want %q, %d, %v", shown(d), rule, octs.Bytes(s), text, by, ok, want, by1, ok1)
		}
		if !ok && slices.Contains(d.Tag, rule) {
			got[0]++
		} else if ok && len(text) > 0 {
			got[1]++
		}
		if ok && by > 0 {
			got[2]++
		}
	}
	if slices.Min(got[:]) < 100 {
		t.Error("too few of none, of some text, of some byte:", got)
	}
}

// By what rules' own texts go on, as layer 5 has them.
func TestOverOfRules(t *testing.T) {
	c, texts, some := newChance(9), over([]byte("abc"), 3), 0
	for range 250 {
		rules := parsed(t, c.expressions()...)
		d, e := tried(rules)
		if e != api.OK {
			continue
		}
		begins := func(s string) bool {
			return slices.ContainsFunc(rules, func(re api.Re) bool { return lang.Begins(re, s) })
		}
		tag := func(s string) int {
			return slices.IndexFunc(rules, func(re api.Re) bool { return lang.Takes(re, s) })
		}
		for rule := range rules {
			s := octs.Of([]byte("abc")[c.Intn(2) : 1+c.Intn(2)+1]...)
			goesOn := func(text string) (byte, bool) {
				for _, b := range octs.Bytes(s) {
					if tag(text) == rule && begins(text+string([]byte{b})) {
						return b, true
					}
				}
				return 0, false
			}
			text, by, ok := prod.Over(d, rule, s)
			if want, ok1 := goesOn(text); ok != ok1 && ok || ok && by != want {
				t.Fatalf("%v: %d: %q, %d, %v", rules, rule, text, by, ok)
			}
			first := slices.IndexFunc(texts, func(z string) bool { _, ok := goesOn(z); return ok })
			if first >= 0 && (!ok || byText(text, texts[first]) > 0) {
				t.Fatalf("%v: %d: %q, %v, want %q", rules, rule, text, ok, texts[first])
			}
			some += min(max(first, 0), 1)
		}
	}
	if some < 40 {
		t.Error("too few go on behind some text:", some)
	}
}

// P12.1 to P12.3: of one that may not be

// plain is an automaton of 4 states and 3 classes.
func plain() dfa.Dfa {
	return dfa.Dfa{
		Classes: class.Part(octs.Of('a', 'c'), octs.Of('b')),
		Next:    [][]int{{0, 1, 2}, {2, 1, 3}, {3, 0, 1}, {3, -1, -1}},
		Tag:     []int{0, 0, 39, 0},
	}
}

// spoilt is automata that may not be.
func spoilt() map[string]dfa.Dfa {
	l := map[string]dfa.Dfa{"zero": {}, "a state of no class": {Next: [][]int{{}}, Tag: []int{0}}, "601 states": line(601, 0)}
	spoil := func(name string, how func(d *dfa.Dfa)) {
		d := plain()
		how(&d)
		l[name] = d
	}
	spoil("no classes", func(d *dfa.Dfa) { d.Classes = class.Classes{} })
	spoil("N less", func(d *dfa.Dfa) { d.Classes.N = 2 })
	spoil("N more", func(d *dfa.Dfa) { d.Classes.N = 4 })
	spoil("classes the other way round", func(d *dfa.Dfa) { d.Classes.Of['a'], d.Classes.Of['b'] = 2, 1 })
	spoil("a tag less", func(d *dfa.Dfa) { d.Tag = d.Tag[:3] })
	spoil("a tag more", func(d *dfa.Dfa) { d.Tag = append(d.Tag, 0) })
	spoil("no tags", func(d *dfa.Dfa) { d.Tag = nil })
	spoil("a row less", func(d *dfa.Dfa) { d.Next = d.Next[:3] })
	spoil("no rows", func(d *dfa.Dfa) { d.Next = nil })
	for at := range 4 {
		name := " of " + strconv.Itoa(at)
		spoil("a next state less"+name, func(d *dfa.Dfa) { d.Next[at] = d.Next[at][:2] })
		spoil("a next state more"+name, func(d *dfa.Dfa) { d.Next[at] = append(d.Next[at], -1) })
		for _, to := range []int{4, -2, 1 << 16, math.MaxInt, math.MinInt} {
			spoil("next "+strconv.Itoa(to)+name, func(d *dfa.Dfa) { d.Next[at][at%3] = to })
		}
		for _, tag := range []int{40, -2, math.MaxInt, math.MinInt} {
			spoil("tag "+strconv.Itoa(tag)+name, func(d *dfa.Dfa) { d.Tag[at] = tag })
		}
	}
	return l
}

func TestOfWhatMayNotBe(t *testing.T) {
	good := []dfa.Dfa{plain(), ofTexts(t, "(a|b)*"), line(1, 0), none()}
	for name, d := range spoilt() {
		for _, g := range append(good, d) {
			for _, x := range [][2]dfa.Dfa{{d, g}, {g, d}} {
				if l := prod.Walk(x[0], x[1]); len(l) != 0 {
					t.Errorf("%s: %s", name, told(l...))
				}
				for q, f := range asked() {
					if s, ok := f.tell(x[0], x[1]); s != "" || ok {
						t.Errorf("%s: %s: %q, %v", name, q, s, ok)
					}
				}
			}
		}
		for _, rule := range []int{-1, 0, 39, 40, math.MinInt, math.MaxInt} {
			if s, by, ok := prod.Over(d, rule, octs.Range(0, 255)); s != "" || by != 0 || ok {
				t.Errorf("%s: Over: %q, %d, %v", name, s, by, ok)
			}
		}
	}
	if s, by, ok := prod.Over(plain(), 39, octs.Range(0, 255)); s != "b" || by != 0 || !ok || len(prod.Walk(plain(), plain())) != 4 {
		t.Error("what isn't spoilt:", s, by, ok)
	}
}

// P12.4

// taken is an automaton with one tag, of the texts that d takes.
func taken(d dfa.Dfa) dfa.Dfa {
	t := dfa.Dfa{Classes: d.Classes, Next: d.Next}
	for _, tag := range d.Tag {
		t.Tag = append(t.Tag, min(tag, 0))
	}
	return t
}

func TestAlikeWhereNoneIsTold(t *testing.T) {
	c := newChance(10)
	var got [3]int
	for i := range 15000 {
		a, b := c.dfa(8), c.dfa(4)
		if i%5 > 0 {
			b = c.near(a)
		}
		_, differ := prod.Differ(a, b)
		if differ == mini.Equal(a, b) {
			t.Fatalf("%s: Differ: %v", shown(a, b), differ)
		}
		_, within := prod.Within(a, b)
		_, without := prod.Within(b, a)
		if (within || without) == mini.Equal(taken(a), taken(b)) {
			t.Fatalf("%s: Within: %v, %v", shown(a, b), within, without)
		}
		if within || without {
			got[0]++
		} else if differ {
			got[1]++
		} else if len(a.Next) > 2 {
			got[2]++
		}
	}
	if slices.Min(got[:]) < 100 {
		t.Error("too few that take other texts, that tag them otherwise, that are alike:", got)
	}
}

func TestAlikeOfRules(t *testing.T) {
	for _, x := range []struct {
		a, b         []string
		alike, taken bool
	}{
		{[]string{"(a|b)*"}, []string{"(a*b*)*"}, true, true},
		{[]string{"a(ba)*"}, []string{"(ab)*a"}, true, true},
		{[]string{"a", "ab"}, []string{"a", "ab?"}, true, true},
		{[]string{"a", "ab?"}, []string{"ab?", "a"}, false, true},
		{[]string{"ab?", "a"}, []string{"a(b|())"}, true, true},
		{[]string{"a{2,4}"}, []string{"aaa?a?"}, true, true},
		{[]string{"a{2,4}"}, []string{"aa?a?a?"}, false, false},
		{[]string{"(a{3})*"}, []string{"(a{6})*", "(a{3})*"}, false, true},
		{[]string{"."}, []string{"[\\x00-\\xff]"}, true, true},
		{[]string{"."}, []string{"[^\\xff]"}, false, false},
	} {
		a, b := ofTexts(t, x.a...), ofTexts(t, x.b...)
		_, differ := prod.Differ(a, b)
		_, within := prod.Within(a, b)
		_, without := prod.Within(b, a)
		if differ == x.alike || (within || without) == x.taken || mini.Equal(a, b) != x.alike {
			t.Errorf("%q, %q: %v, %v, %v", x.a, x.b, differ, within, without)
		}
	}
}

// Rules 4, 5 and 6: lists, memory

// roomy is an automaton in new memory, each list with room behind it in which something stands.
func roomy(d dfa.Dfa) dfa.Dfa {
	row := func(l []int) []int { return append(slices.Clone(l), -5)[:len(l)] }
	r := dfa.Dfa{Classes: d.Classes, Tag: row(d.Tag)}
	for _, l := range d.Next {
		r.Next = append(r.Next, row(l))
	}
	r.Next = append(r.Next, []int{-5})[:len(d.Next)]
	return r
}

func stays(room, d dfa.Dfa) bool {
	row := func(l, k []int) bool { return slices.Equal(l, k) && l[:len(l)+1][len(l)] == -5 }
	all := len(d.Next)
	return room.Classes == d.Classes && row(room.Tag, d.Tag) && slices.EqualFunc(room.Next, d.Next, row) && slices.Equal(room.Next[:all+1][all], []int{-5})
}

func TestMemory(t *testing.T) {
	c := newChance(11)
	for range 300 {
		a, b, s := c.dfa(8), c.dfa(8), c.bytesAtRandom()
		x, y := roomy(a), roomy(b)
		want := walkModel(a, b, someBytes(a, b))
		for range 2 {
			l := prod.Walk(x, y)
			if !slices.Equal(l, want) {
				t.Fatal("another answer the second time")
			}
			clear(append(l, prod.Pair{A: 7})[:len(l)])
			for name, q := range asked() {
				text, ok := q.tell(x, y)
				if text1, ok1 := askModel(a, b, want, q.asked); text != text1 || ok != ok1 {
					t.Fatal("another answer:", name)
				}
			}
			text, by, ok := prod.Over(x, 0, s)
			if text1, by1, ok1 := overModel(a, 0, s); text != text1 || by != by1 || ok != ok1 {
				t.Fatal("another answer: Over")
			}
			if !stays(x, a) || !stays(y, b) {
				t.Fatal("what was handed in was changed")
			}
		}
	}
}

// An automaton beside itself, and rows that are one.
func TestOneAutomatonTwice(t *testing.T) {
	row := []int{1, 2}
	d := dfa.Dfa{Classes: class.Part(octs.Of('a')), Next: [][]int{row, row, row}, Tag: []int{-1, 4, 5}}
	if l := prod.Walk(d, d); !slices.Equal(l, []prod.Pair{{0, 0, ""}, {1, 1, "\x00"}, {2, 2, "a"}}) {
		t.Error(told(l...))
	}
	if s, ok := prod.Differ(d, d); s != "" || ok {
		t.Error(s, ok)
	}
	if !slices.Equal(row, []int{1, 2}) {
		t.Error("changed")
	}
}

// What a pair's text is stays so when what was handed in is changed.
func TestKeepsNothing(t *testing.T) {
	a, b := ofTexts(t, "a(b|c)*"), ofTexts(t, "(ab)*c")
	l := prod.Walk(a, b)
	want := slices.Clone(l)
	for _, d := range []dfa.Dfa{a, b} {
		for _, row := range d.Next {
			clear(row)
		}
	}
	if !slices.Equal(l, want) || len(prod.Walk(a, b)) != 1 {
		t.Error("kept from the first time")
	}
}

func TestEmptyLists(t *testing.T) {
	a := dfa.Dfa{Classes: class.Part(), Next: [][]int{}, Tag: []int{}}
	d := ofTexts(t, "ab")
	if len(prod.Walk(a, none())) != 0 || !slices.Equal(prod.Walk(a, d), prod.Walk(none(), d)) || len(prod.Walk(d, a)) != 3 {
		t.Error("empty and nil")
	}
}
