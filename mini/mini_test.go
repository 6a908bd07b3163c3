package mini_test

import (
	"math"
	"reflect"
	"slices"
	"strconv"
	"strings"
	"testing"

	"hackle/api"
	"hackle/class"
	"hackle/dfa"
	"hackle/lang"
	"hackle/mini"
	"hackle/octs"
)

// P10.1

func TestExample(t *testing.T) {
	m := mini.Min(ofTexts(t, "(a|b)c"))
	want := dfa.Dfa{
		Classes: class.Part(octs.Of('a', 'b'), octs.Of('c')),
		Next:    [][]int{{-1, 1, -1}, {-1, -1, 2}, {-1, -1, -1}},
		Tag:     []int{-1, -1, 0},
	}
	if !same(m, want) {
		t.Error(shown(m))
	}
	if s, ok := mini.Apart(m, 0, 1); s != "c" || !ok {
		t.Error(s, ok)
	}
}

// plain is an automaton of 7 states and 3 classes: of all others, of a and c, and of b. Of its states 1 and 4 are alike, 3 and 6 (which lead to no tag) and 2 and 5.
func plain() dfa.Dfa {
	return dfa.Dfa{
		Classes: class.Part(octs.Of('a', 'c'), octs.Of('b')),
		Next:    [][]int{{-1, 1, 2}, {2, 4, 3}, {0, 6, -1}, {3, -1, 6}, {5, 1, -1}, {0, 3, 3}, {6, 6, 6}},
		Tag:     []int{-1, 39, 0, -1, 39, 0, -1},
	}
}

func TestBlocksByHand(t *testing.T) {
	one, two := class.Part(), class.Part(octs.Of('a'))
	for name, x := range map[string]struct {
		d    dfa.Dfa
		want [][]int
	}{
		"plain":                  {plain(), [][]int{{0}, {1, 4}, {2, 5}, {3, 6}}},
		"no state":               {dfa.Dfa{Classes: one}, nil},
		"one state":              {dfa.Dfa{Classes: one, Next: [][]int{{0}}, Tag: []int{39}}, [][]int{{0}}},
		"one as none":            {dfa.Dfa{Classes: one, Next: [][]int{{-1}}, Tag: []int{-1}}, [][]int{{0}}},
		"all as none":            {dfa.Dfa{Classes: two, Next: [][]int{{1, 2}, {-1, 1}, {-1, -1}}, Tag: []int{-1, -1, -1}}, [][]int{{0, 1, 2}}},
		"by tags":                {dfa.Dfa{Classes: one, Next: [][]int{{-1}, {-1}, {-1}, {-1}, {-1}}, Tag: []int{3, -1, 0, 3, -1}}, [][]int{{0, 3}, {1, 4}, {2}}},
		"not reached":            {dfa.Dfa{Classes: one, Next: [][]int{{-1}, {0}, {-1}, {2}}, Tag: []int{0, -1, 0, -1}}, [][]int{{0, 2}, {1, 3}}},
		"round and round":        {dfa.Dfa{Classes: one, Next: [][]int{{1}, {2}, {3}, {0}}, Tag: []int{1, 2, 1, 2}}, [][]int{{0, 2}, {1, 3}}},
		"all apart":              {dfa.Dfa{Classes: one, Next: [][]int{{1}, {2}, {3}, {-1}}, Tag: []int{0, 0, 0, 0}}, [][]int{{0}, {1}, {2}, {3}}},
		"ends and one without":   {dfa.Dfa{Classes: one, Next: [][]int{{1}, {-1}, {2}, {2}}, Tag: []int{0, 0, 0, 0}}, [][]int{{0}, {1}, {2, 3}}},
		"by the last class":      {dfa.Dfa{Classes: two, Next: [][]int{{0, 1}, {0, 2}, {0, 1}}, Tag: []int{-1, 7, -1}}, [][]int{{0, 2}, {1}}},
		"to none, or as none":    {dfa.Dfa{Classes: two, Next: [][]int{{3, 1}, {2, -1}, {2, 2}, {-1, 1}}, Tag: []int{-1, 7, -1, -1}}, [][]int{{0}, {1}, {2}, {3}}},
		"to none, and to itself": {dfa.Dfa{Classes: two, Next: [][]int{{-1, 1}, {2, -1}, {2, 2}, {2, 1}}, Tag: []int{-1, 7, -1, -1}}, [][]int{{0, 3}, {1}, {2}}},
	} {
		if got := mini.Blocks(x.d); !reflect.DeepEqual(ownRows(got), x.want) {
			t.Errorf("%s: %v, want %v", name, got, x.want)
		}
	}
}

func TestBlocksAgainstModel(t *testing.T) {
	c, alike, rings := newChance(1), 0, 0
	for i := range 3000 {
		d := c.dfa(12)
		if i%3 == 0 {
			d = c.twin(c.dfa(6))
		}
		got, want := mini.Blocks(d), blocksModel(d)
		if !reflect.DeepEqual(ownRows(got), want) {
			t.Fatalf("%s: %v, want %v", shown(d), got, want)
		}
		if len(got) > 3 && len(got) < len(d.Next) {
			alike++
		}
		if len(got) > 8 {
			rings++
		}
	}
	if alike < 400 || rings < 200 {
		t.Error("too few of which some are alike, or with many blocks:", alike, rings)
	}
}

// wide is an automaton of so many states, of which one leads to the next one.
func wide(many int) dfa.Dfa {
	d := dfa.Dfa{Classes: class.Part()}
	for at := range many {
		d.Next, d.Tag = append(d.Next, []int{at + 1}), append(d.Tag, -1)
	}
	d.Next[many-1][0], d.Tag[many-1] = -1, 0
	return d
}

// each is the partition that tells all bytes apart.
func each() class.Classes {
	var l []api.Set
	for b := range 256 {
		l = append(l, octs.Of(byte(b)))
	}
	return class.Part(l...)
}

// turning is as many states as may be, of 256 classes: from each to others that are 1, 2 and so on farther, round and round; each so many states one tells a tag.
func turning(round int) dfa.Dfa {
	d := dfa.Dfa{Classes: each()}
	for at := range api.MaxStates {
		row := make([]int, 256)
		for k := range row {
			row[k] = (at + k + 1) % api.MaxStates
		}
		tag := -1
		if at%round == 0 {
			tag = 39
		}
		d.Next, d.Tag = append(d.Next, row), append(d.Tag, tag)
	}
	return d
}

func TestBlocksOfGreatAutomata(t *testing.T) {
	for _, round := range []int{1, 2, 60, 300, 600} {
		got := mini.Blocks(turning(round))
		if len(got) != round {
			t.Fatal(round, len(got))
		}
		for i, l := range got {
			for j, at := range l {
				if len(l) != 600/round || at != i+j*round {
					t.Fatal(round, i, l)
				}
			}
		}
	}
	d := wide(api.MaxStates)
	if got := mini.Blocks(d); len(got) != 600 {
		t.Error("a chain:", len(got))
	}
	d.Tag[599] = -1
	if got := mini.Blocks(d); len(got) != 1 || len(got[0]) != 600 {
		t.Error("a chain without a tag:", len(got))
	}
}

// At random, so that a block is split by others again and again.
func TestBlocksOfManyStates(t *testing.T) {
	c := newChance(2)
	for _, classes := range []class.Classes{class.Part(), class.Part(octs.Of('a')), each()} {
		for _, outOf := range []int{1, 2, 300} {
			d := dfa.Dfa{Classes: classes}
			for range api.MaxStates {
				row := make([]int, classes.N)
				for k := range row {
					row[k] = c.Intn(api.MaxStates+1) - 1
				}
				d.Next, d.Tag = append(d.Next, row), append(d.Tag, c.tag(outOf))
			}
			checkBlocks(t, d)
		}
	}
}

// checkBlocks asks that the states of a block have the same tag and lead to the same blocks, and that those of two blocks are apart.
func checkBlocks(t *testing.T, d dfa.Dfa) {
	t.Helper()
	blocks, count := mini.Blocks(d), 0
	of := make([]int, len(d.Next)+1) // of none and each state its block
	for n, l := range blocks {
		count += len(l)
		for _, at := range l {
			of[at+1] = n + 1
		}
		if _, ok := mini.Apart(d, l[0], -1); !ok {
			of[0] = n + 1
		}
	}
	if count != len(d.Next) {
		t.Fatal("states in blocks:", count)
	}
	for n, l := range blocks {
		for _, at := range l {
			for k, to := range d.Next[at] {
				if of[to+1] != of[d.Next[l[0]][k]+1] || d.Tag[at] != d.Tag[l[0]] {
					t.Fatal("not alike:", at, l[0])
				}
			}
		}
		if s, ok := mini.Apart(d, l[0], blocks[0][0]); ok != (n > 0) || ok && fromModel(d, l[0], s) == fromModel(d, blocks[0][0], s) {
			t.Fatal("not apart:", n, s, ok)
		}
	}
}

func TestMinByHand(t *testing.T) {
	one, two := class.Part(), class.Part(octs.Of('a'))
	for name, x := range map[string]struct{ d, want dfa.Dfa }{
		"plain":          {plain(), dfa.Dfa{Classes: plain().Classes, Next: [][]int{{-1, 1, 2}, {2, 1, -1}, {0, -1, -1}}, Tag: []int{-1, 39, 0}}},
		"no state":       {dfa.Dfa{Classes: two}, dfa.Dfa{Classes: one}},
		"no tag":         {dfa.Dfa{Classes: two, Next: [][]int{{0, 1}, {1, 0}}, Tag: []int{-1, -1}}, dfa.Dfa{Classes: one}},
		"not reached":    {dfa.Dfa{Classes: two, Next: [][]int{{0, 0}, {1, 0}}, Tag: []int{-1, 3}}, dfa.Dfa{Classes: one}},
		"a tag alone":    {dfa.Dfa{Classes: two, Next: [][]int{{-1, -1}}, Tag: []int{5}}, dfa.Dfa{Classes: one, Next: [][]int{{-1}}, Tag: []int{5}}},
		"to itself":      {dfa.Dfa{Classes: two, Next: [][]int{{1, 0}, {0, 1}}, Tag: []int{5, 5}}, dfa.Dfa{Classes: one, Next: [][]int{{0}}, Tag: []int{5}}},
		"two tags":       {dfa.Dfa{Classes: two, Next: [][]int{{1, 0}, {0, 1}}, Tag: []int{5, 4}}, dfa.Dfa{Classes: two, Next: [][]int{{1, 0}, {0, 1}}, Tag: []int{5, 4}}},
		"one class less": {dfa.Dfa{Classes: plain().Classes, Next: [][]int{{1, 0, 1}, {1, 0, 1}}, Tag: []int{5, 4}}, dfa.Dfa{Classes: class.Part(octs.Of('a', 'c')), Next: [][]int{{1, 0}, {1, 0}}, Tag: []int{5, 4}}},
		"the last class": {dfa.Dfa{Classes: plain().Classes, Next: [][]int{{1, 1, 0}, {1, 1, 0}}, Tag: []int{5, 4}}, dfa.Dfa{Classes: class.Part(octs.Of('b')), Next: [][]int{{1, 0}, {1, 0}}, Tag: []int{5, 4}}},
		"found anew":     {dfa.Dfa{Classes: two, Next: [][]int{{2, 1}, {-1, -1}, {3, 2}, {-1, -1}}, Tag: []int{-1, 3, -1, 3}}, dfa.Dfa{Classes: two, Next: [][]int{{1, 2}, {2, 1}, {-1, -1}}, Tag: []int{-1, -1, 3}}},
		"as none":        {dfa.Dfa{Classes: two, Next: [][]int{{1, 2}, {1, 1}, {1, -1}}, Tag: []int{-1, -1, 3}}, dfa.Dfa{Classes: two, Next: [][]int{{-1, 1}, {-1, -1}}, Tag: []int{-1, 3}}},
	} {
		if got := mini.Min(x.d); !same(got, x.want) || !dfa.May(got) {
			t.Errorf("%s: %s, want %s", name, shown(got), shown(x.want))
		}
	}
}

func TestMinOfRules(t *testing.T) {
	for _, x := range []struct {
		rules []string
		next  [][]int
		tag   []int
	}{
		// Classes are numbered by their least bytes.
		{[]string{"[]"}, nil, nil},
		{[]string{"a[]", "[]b*"}, nil, nil},
		{[]string{"()"}, [][]int{{-1}}, []int{0}},
		{[]string{".*"}, [][]int{{0}}, []int{0}},
		{[]string{"(.|..)*"}, [][]int{{0}}, []int{0}},
		{[]string{"[]", "a*"}, [][]int{{-1, 0}}, []int{1}},
		{[]string{"(a|b)*"}, [][]int{{-1, 0}}, []int{0}},
		{[]string{"a", "[ab]"}, [][]int{{-1, 1, 2}, {-1, -1, -1}, {-1, -1, -1}}, []int{-1, 0, 1}},
		{[]string{"[ab]", "a"}, [][]int{{-1, 1}, {-1, -1}}, []int{-1, 0}},
		{[]string{"aa|ba|ca", "da"}, [][]int{{-1, 1, 1, 2}, {-1, 3, -1, -1}, {-1, 4, -1, -1}, {-1, -1, -1, -1}, {-1, -1, -1, -1}}, []int{-1, -1, -1, 0, 1}},
		{[]string{"(a|b)*a(a|b)"}, [][]int{{-1, 1, 0}, {-1, 2, 3}, {-1, 2, 3}, {-1, 1, 0}}, []int{-1, -1, 0, 0}},
		{[]string{"\\x00", ".{2}"}, [][]int{{1, 2}, {3, 3}, {3, 3}, {-1, -1}}, []int{-1, 0, -1, 1}},
	} {
		if got := mini.Min(ofTexts(t, x.rules...)); !same(dfa.Dfa{Next: got.Next, Tag: got.Tag}, dfa.Dfa{Next: x.next, Tag: x.tag}) || !dfa.May(got) {
			t.Errorf("%v: %s", x.rules, shown(got))
		}
	}
}

func TestMinAgainstModel(t *testing.T) {
	c, fewer, joined := newChance(3), 0, 0
	for i := range 4000 {
		d := c.dfa(10)
		if i%2 == 0 {
			d = c.twin(c.dfa(7))
		}
		got, want := mini.Min(d), minModel(d)
		if !same(got, want) || !dfa.May(got) {
			t.Fatalf("%s: %s, want %s", shown(d), shown(got), shown(want))
		}
		if len(got.Next) > 2 && len(got.Next) < len(dfa.Trim(d).Next) {
			fewer++
		}
		if got.Classes.N > 1 && got.Classes.N < d.Classes.N {
			joined++
		}
	}
	if fewer < 200 || joined < 200 {
		t.Error("too few get smaller, or have fewer classes, and don't vanish:", fewer, joined)
	}
}

// All classes are kept, and all states, or half of them.
func TestMinOfGreatAutomata(t *testing.T) {
	if d := turning(600); !same(mini.Min(d), d) {
		t.Error("all apart:", shown(mini.Min(d)))
	}
	if d := wide(600); !same(mini.Min(d), d) {
		t.Error("a chain:", shown(mini.Min(d)))
	}
	got := mini.Min(turning(300))
	if len(got.Next) != 300 || got.Classes.N != 256 || !slices.Equal(got.Tag, append([]int{39}, slices.Repeat([]int{-1}, 299)...)) {
		t.Fatal("300 of them:", shown(got))
	}
	for at, row := range got.Next {
		for k, to := range row {
			if to != (at+k+1)%300 {
				t.Fatal("300 of them:", at, k, to)
			}
		}
	}
	got = mini.Min(turning(2))
	if len(got.Next) != 2 || got.Classes.N != 2 || got.Classes.Of != alternate() || !slices.Equal(got.Next[0], []int{1, 0}) || !slices.Equal(got.Next[1], []int{0, 1}) {
		t.Error("2 of them:", shown(got))
	}
	// Two classes that lead to states 256 numbers from each other aren't one.
	d := dfa.Dfa{Classes: class.Part(octs.Of('a')), Tag: wide(600).Tag}
	for at := range 599 {
		d.Next = append(d.Next, []int{at + 1, at + 1})
	}
	d.Next = append(d.Next, []int{-1, -1})
	d.Next[300][1] = 301 - 256
	if got := mini.Min(d); !same(got, d) {
		t.Error("256 numbers back:", got.Classes.N, len(got.Next))
	}
}

func alternate() (of [256]uint8) {
	for b := range of {
		of[b] = uint8(b % 2)
	}
	return of
}

func TestEqualByHand(t *testing.T) {
	for _, x := range []struct {
		a, b []string
		want bool
	}{
		{[]string{"a"}, []string{"a"}, true},
		{[]string{"(a*)*"}, []string{"a*"}, true},
		{[]string{"(a|b)*"}, []string{"(a*b*)*"}, true},
		{[]string{"[a-c]d|e[]"}, []string{"ad|bd|cd"}, true},
		{[]string{"[]"}, []string{"a[]", "[]"}, true},
		{[]string{"a|b"}, []string{"a"}, false},
		{[]string{"a", "b"}, []string{"b", "a"}, false},
		{[]string{"a", "b"}, []string{"[ab]"}, false},
		{[]string{"a", "[ab]"}, []string{"a", "b"}, true},
		{[]string{"a*", "aa"}, []string{"a*"}, true},
		{[]string{"aa", "a*"}, []string{"aa", "(aa?)*"}, true},
		{[]string{"()"}, []string{"[]"}, false},
		{[]string{"[]", "()"}, []string{"()"}, false},
		{[]string{"[]", "()"}, []string{"b[]", "()"}, true},
		{[]string{"(a{30}){19}a"}, []string{"(a{19}){30}a"}, true},
		{[]string{"(a{30}){19}a"}, []string{"(a{19}){30}b"}, false},
		{[]string{"(a{30}){19}"}, []string{"(a{19}){30}a"}, false},
	} {
		a, b := ofTexts(t, x.a...), ofTexts(t, x.b...)
		if mini.Equal(a, b) != x.want || mini.Equal(b, a) != x.want {
			t.Errorf("%v and %v", x.a, x.b)
		}
	}
}

// other is d with a change of one thing, which may be one that no text tells.
func (c chance) other(d dfa.Dfa) dfa.Dfa {
	d = own(d)
	if len(d.Next) == 0 {
		return d
	}
	at := c.Intn(len(d.Next))
	if c.Intn(3) == 0 {
		d.Tag[at] = c.tag(2)
	} else {
		d.Next[at][c.Intn(d.Classes.N)] = c.Intn(len(d.Next)+1) - 1
	}
	return d
}

func TestEqualAgainstModel(t *testing.T) {
	c := newChance(4)
	var got [2]int
	for i := range 2000 {
		a := c.dfa(7)
		b := c.twin(a)
		if i%3 > 0 {
			b = c.other(b)
		}
		want := equalModel(a, b)
		if mini.Equal(a, b) != want || mini.Equal(b, a) != want || i%3 == 0 && !want {
			t.Fatalf("%s and %s: want %v", shown(a), shown(b), want)
		}
		if want && len(mini.Min(a).Next) > 1 {
			got[0]++
		}
		if !want {
			got[1]++
		}
	}
	if got[0] < 300 || got[1] < 300 {
		t.Error("too few are alike, or not:", got)
	}
}

// spoilt is automata that may not be.
func spoilt() map[string]dfa.Dfa {
	l := map[string]dfa.Dfa{"zero": {}, "a state of no class": {Next: [][]int{{}}, Tag: []int{0}}}
	spoil := func(name string, how func(d *dfa.Dfa)) {
		d := plain()
		how(&d)
		l[name] = d
	}
	spoil("no classes", func(d *dfa.Dfa) { d.Classes = class.Classes{} })
	spoil("N less", func(d *dfa.Dfa) { d.Classes.N = 2 })
	spoil("N more", func(d *dfa.Dfa) { d.Classes.N = 4 })
	spoil("classes the other way round", func(d *dfa.Dfa) { d.Classes.Of['a'], d.Classes.Of['b'] = 2, 1 })
	spoil("a class that isn't there", func(d *dfa.Dfa) { d.Classes.Of[255] = 255 })
	spoil("a tag less", func(d *dfa.Dfa) { d.Tag = d.Tag[:6] })
	spoil("a tag more", func(d *dfa.Dfa) { d.Tag = append(d.Tag, 0) })
	spoil("no tag", func(d *dfa.Dfa) { d.Tag = nil })
	spoil("a row less", func(d *dfa.Dfa) { d.Next = d.Next[:6] })
	spoil("a row more", func(d *dfa.Dfa) { d.Next = append(d.Next, []int{-1, -1, -1}) })
	spoil("no row", func(d *dfa.Dfa) { d.Next = nil })
	spoil("too many states", func(d *dfa.Dfa) { *d = wide(api.MaxStates + 1) })
	for at := range 7 {
		name := " of " + strconv.Itoa(at)
		spoil("a next state less"+name, func(d *dfa.Dfa) { d.Next[at] = d.Next[at][:2] })
		spoil("a next state more"+name, func(d *dfa.Dfa) { d.Next[at] = append(d.Next[at], -1) })
		for _, to := range []int{7, -2, 600, math.MaxInt, math.MinInt} {
			spoil("next "+strconv.Itoa(to)+name, func(d *dfa.Dfa) { d.Next[at][at%3] = to })
		}
		for _, tag := range []int{40, -2, math.MaxInt, math.MinInt} {
			spoil("tag "+strconv.Itoa(tag)+name, func(d *dfa.Dfa) { d.Tag[at] = tag })
		}
	}
	return l
}

func TestOfWhatMayNotBe(t *testing.T) {
	for name, d := range spoilt() {
		if got := mini.Blocks(d); len(got) != 0 {
			t.Errorf("%s: Blocks: %v", name, got)
		}
		if got := mini.Min(d); !isZero(got) {
			t.Errorf("%s: Min: %s", name, shown(got))
		}
		if mini.Equal(d, d) || mini.Equal(d, plain()) || mini.Equal(plain(), d) || mini.Equal(d, dfa.Dfa{}) {
			t.Errorf("%s: Equal", name)
		}
		for i := -2; i < 9; i++ {
			for j := -2; j < 9; j++ {
				if s, ok := mini.Apart(d, i, j); s != "" || ok {
					t.Errorf("%s: Apart(%d, %d): %q, %v", name, i, j, s, ok)
				}
			}
		}
	}
	if mini.Equal(dfa.Dfa{Classes: class.Part()}, dfa.Dfa{}) || mini.Equal(dfa.Dfa{}, dfa.Dfa{Classes: class.Part()}) || !mini.Equal(dfa.Dfa{Classes: each()}, dfa.Dfa{Classes: class.Part()}) {
		t.Error("of none with a state, one that may not be isn't the same")
	}
}

// P10.2

func TestApartByHand(t *testing.T) {
	d := plain()
	for _, x := range []struct {
		i, j int
		s    string
		ok   bool
	}{
		{0, 1, "", true}, {1, 0, "", true}, {1, 2, "", true}, {0, -1, "a", true}, {-1, 0, "a", true}, {0, 3, "a", true}, {6, 0, "a", true},
		{1, 4, "", false}, {2, 5, "", false}, {3, 6, "", false}, {3, -1, "", false}, {-1, 6, "", false}, {-1, 2, "", true},
		{0, 0, "", false}, {3, 3, "", false}, {-1, -1, "", false}, {6, 6, "", false},
		{7, 0, "", false}, {0, 7, "", false}, {-2, 0, "", false}, {0, -2, "", false}, {7, 7, "", false}, {-2, -2, "", false}, {7, -1, "", false},
		{math.MaxInt, 0, "", false}, {0, math.MinInt, "", false}, {600, -1, "", false}, {1 << 32, 1, "", false},
	} {
		if s, ok := mini.Apart(d, x.i, x.j); s != x.s || ok != x.ok {
			t.Errorf("%d and %d: %q, %v, want %q, %v", x.i, x.j, s, ok, x.s, x.ok)
		}
	}
}

func TestApartOfRules(t *testing.T) {
	for _, x := range []struct {
		rule, i, j string // the texts behind which the states are
		s          string
		ok         bool
	}{
		{"ab|cd", "a", "c", "b", true},
		{"ab|cd", "", "a", "b", true},
		{"ab|cd", "ab", "cd", "", false},
		{"ab|cd", "", "x", "ab", true},
		{"a(x|yz)|b(x|yw)", "a", "b", "yw", true},
		{"a(xx|xb|xa)|b(xc)", "a", "b", "xa", true},
		{"a(xx|ya)|bxx", "a", "b", "ya", true},
		{"a(xyz|y)|bxyz", "a", "b", "y", true},
		{"a\\xff|b\\x00|c", "a", "b", "\x00", true},
		{"a\\xff|b\\x00|c", "a", "c", "", true},
		{"a[^b]|c[^d]|e.", "a", "c", "b", true},
		{"a[^b]|c[^d]|e.", "c", "e", "d", true},
		{"a[^b]|c[^d]|e.", "x", "e", "\x00", true},
		{"a*b|c", "", "a", "c", true},
		{"a*b|c", "a", "aa", "", false},
		{"(a{50}){11}", "", "a", strings.Repeat("a", 549), true},
		{"(a{50}){11}", "a", "aaa", strings.Repeat("a", 547), true},
		{"(a{50}){11}", "a", "x", strings.Repeat("a", 549), true},
	} {
		d := ofTexts(t, x.rule)
		if s, ok := mini.Apart(d, dfa.Run(d, x.i), dfa.Run(d, x.j)); s != x.s || ok != x.ok {
			t.Errorf("%s: %q and %q: %q, %v, want %q, %v", x.rule, x.i, x.j, s, ok, x.s, x.ok)
		}
	}
}

func TestApartAgainstModel(t *testing.T) {
	c, longest, deep := newChance(5), 0, 0
	for n := range 1500 {
		d := c.dfa(9)
		if n%3 == 0 {
			d = c.twin(c.dfa(6))
		}
		for i := -2; i < len(d.Next)+2; i++ {
			for j := -2; j < len(d.Next)+2; j++ {
				s, ok := mini.Apart(d, i, j)
				if want, wantOk := tellModel(d, i, j); s != want || ok != wantOk {
					t.Fatalf("%s: %d and %d: %q, %v, want %q, %v", shown(d), i, j, s, ok, want, wantOk)
				}
				longest = max(longest, len(s))
				deep += min(len(s)/3, 1)
			}
		}
	}
	if longest < 5 || deep < 300 {
		t.Error("too few long texts:", longest, deep)
	}
}

// Of all texts that are short, by their tags alone.
func TestApartAgainstAllTexts(t *testing.T) {
	c, texts := newChance(6), over("\x00ab", 4)
	for range 400 {
		d := dfa.Dfa{Classes: class.Part(octs.Of('a'), octs.Of('b'))}
		all := 1 + c.Intn(6)
		for range all {
			d.Next, d.Tag = append(d.Next, []int{c.Intn(all+1) - 1, c.Intn(all+1) - 1, c.Intn(all+1) - 1}), append(d.Tag, c.tag(3))
		}
		for i := -1; i < all; i++ {
			for j := -1; j < all; j++ {
				at := slices.IndexFunc(texts, func(s string) bool { return fromModel(d, i, s) != fromModel(d, j, s) })
				s, ok := mini.Apart(d, i, j)
				if at >= 0 && (!ok || s != texts[at]) || at < 0 && ok && len(s) <= 4 {
					t.Fatalf("%s: %d and %d: %q, %v, %d", shown(d), i, j, s, ok, at)
				}
			}
		}
	}
}

// Two rings of states, of which one is far longer: all pairs of them come up, if nothing is left out.
func TestApartOfRings(t *testing.T) {
	d := dfa.Dfa{Classes: each()}
	for at := range 600 {
		to := (at + 1) % 301
		if at >= 301 {
			to = 301 + (at-301+1)%299
		}
		d.Next, d.Tag = append(d.Next, slices.Repeat([]int{to}, 256)), append(d.Tag, 1)
	}
	if s, ok := mini.Apart(d, 0, 301); s != "" || ok {
		t.Error("alike:", len(s), ok)
	}
	d.Tag[300], d.Tag[599] = 2, 2
	if s, ok := mini.Apart(d, 2, 301); s != strings.Repeat("\x00", 298+299) || !ok {
		t.Error("apart behind the first round:", len(s), ok)
	}
	if s, ok := mini.Apart(d, 2, 302); s != strings.Repeat("\x00", 297) || !ok {
		t.Error("a byte ahead:", len(s), ok)
	}
	d.Next[7] = slices.Repeat([]int{8}, 256)
	d.Next[7][255] = 9
	d.Tag[599] = 1
	if s, ok := mini.Apart(d, 0, 301); s != strings.Repeat("\x00", 7)+"\xff"+strings.Repeat("\x00", 291) || !ok {
		t.Errorf("the last byte leads farther: %d, %q, %v", len(s), s, ok)
	}
}

// P10.3

func TestLeastTagsTheSame(t *testing.T) {
	c, asked := newChance(7), over("ab\xff", 5)
	for range 600 {
		d := c.dfa(8)
		m := mini.Min(d)
		for _, s := range asked {
			if want := fromModel(d, min(len(d.Next), 1)-1, s); dfa.Tag(m, s) != want {
				t.Fatalf("%s: %q: %d, want %d", shown(d), s, dfa.Tag(m, s), want)
			}
		}
	}
}

func TestLeastOfRulesTagsTheirTexts(t *testing.T) {
	c, asked, tagged := newChance(8), append(over("ab", 5), over("abc", 3)...), 0
	for range 400 {
		rules := parsed(t, c.expressions()...)
		d, e := tried(rules)
		if e != api.OK {
			continue
		}
		m := mini.Min(d)
		for _, s := range asked {
			want := slices.IndexFunc(rules, func(re api.Re) bool { return lang.Takes(re, s) })
			begun := slices.ContainsFunc(rules, func(re api.Re) bool { return lang.Begins(re, s) })
			if dfa.Tag(m, s) != want || (dfa.Run(m, s) >= 0) != begun {
				t.Fatalf("%v: %q: %d, want %d", rules, s, dfa.Tag(m, s), want)
			}
			if want > 0 {
				tagged++
			}
		}
	}
	if tagged < 1000 {
		t.Error("too few texts of a rule behind the first one:", tagged)
	}
}

func TestSameLeastOfAlikeOnes(t *testing.T) {
	c, some := newChance(9), 0
	for range 2500 {
		d := c.dfa(8)
		m, twin := mini.Min(d), c.twin(d)
		for _, x := range []dfa.Dfa{m, twin, c.twin(m), dfa.Trim(twin)} {
			if got := mini.Min(x); !same(got, m) || !mini.Equal(x, d) {
				t.Fatalf("%s: %s, want %s", shown(x), shown(got), shown(m))
			}
		}
		if len(m.Next) > 2 {
			some++
		}
	}
	if some < 500 {
		t.Error("too few of some states:", some)
	}
}

// all hands look each automaton of so many states, by the bytes below 'b' and the others, of one tag.
func all(states int, look func(dfa.Dfa)) {
	digits := slices.Repeat([]int{-1}, 3*states) // of each state its tag, and where it leads to
	for {
		d := dfa.Dfa{Classes: class.Part(octs.Range('b', 255))}
		for at := range states {
			d.Next, d.Tag = append(d.Next, digits[3*at+1:3*at+3]), append(d.Tag, digits[3*at])
		}
		look(own(d))
		i := 0
		for ; i < len(digits); i++ {
			digits[i]++
			if digits[i] < []int{1, states, states}[i%3] {
				break
			}
			digits[i] = -1
		}
		if i == len(digits) {
			return
		}
	}
}

// Of all small automata: two that tag all texts alike have the same least one, and no smaller one does.
func TestNoneIsSmaller(t *testing.T) {
	type kept struct{ least, states int }
	texts := over("ab", 5) // those that tell two automata of at most 3 states apart
	seen := map[string]kept{}
	var leasts []dfa.Dfa
	for states := range 4 {
		all(states, func(d dfa.Dfa) {
			var tags strings.Builder
			for _, s := range texts {
				tags.WriteByte(byte('0' + fromModel(d, min(states, 1)-1, s) + 1))
			}
			m := mini.Min(d)
			k, ok := seen[tags.String()]
			if !ok { // the fewest states come first
				k = kept{len(leasts), states}
				seen[tags.String()] = k
				leasts = append(leasts, m)
			}
			if !same(m, leasts[k.least]) || len(m.Next) != k.states {
				t.Fatalf("%s: %s, want %s with %d", shown(d), shown(m), shown(leasts[k.least]), k.states)
			}
		})
	}
	if len(leasts) < 1000 {
		t.Error("too few:", len(leasts))
	}
}

// All states of the least one are reached, lead to a tag, and are apart: so that of two texts that lead to two of them none leads to the same one of a smaller one.
func TestAllAreApart(t *testing.T) {
	c := newChance(10)
	for range 500 {
		d, e := tried(parsed(t, c.expressions()...))
		if e != api.OK {
			continue
		}
		m := mini.Min(d)
		if len(dfa.Trim(m).Next) != len(m.Next) || len(m.Next) > 60 {
			t.Fatal(len(m.Next))
		}
		for i := range m.Next {
			for j := -1; j < i; j++ {
				s, ok := mini.Apart(m, i, j)
				if !ok || fromModel(m, i, s) == fromModel(m, j, s) {
					t.Fatalf("%s: %d and %d: %q, %v", shown(m), i, j, s, ok)
				}
			}
		}
	}
}

// Rule 5, memory, and rule 6

// roomy is an automaton in new memory, each list with room behind it in which something stands.
func roomy(d dfa.Dfa) dfa.Dfa {
	row := func(l []int) []int { return append(slices.Clone(l), -5)[:len(l)] }
	c := dfa.Dfa{Classes: d.Classes, Tag: row(d.Tag)}
	for _, l := range d.Next {
		c.Next = append(c.Next, row(l))
	}
	c.Next = append(c.Next, []int{-5})[:len(d.Next)]
	return c
}

func stays(room, d dfa.Dfa) bool {
	row := func(x, y []int) bool { return slices.Equal(x, y) && x[:len(x)+1][len(x)] == -5 }
	all := len(d.Next)
	return room.Classes == d.Classes && row(room.Tag, d.Tag) && slices.EqualFunc(room.Next, d.Next, row) && slices.Equal(room.Next[:all+1][all], []int{-5})
}

// scribble changes all rows, and asks that none comes into another one.
func scribble(t *testing.T, rows [][]int) {
	t.Helper()
	kept := ownRows(rows)
	_ = append(rows, nil, nil)
	for at, row := range rows {
		_ = append(row, -7, -7, -7)
		if !reflect.DeepEqual(ownRows(rows), kept) {
			t.Fatal("a row that grows comes into another one")
		}
		for k := range row {
			row[k], kept[at][k] = -8-at, -8-at
		}
		if !reflect.DeepEqual(ownRows(rows), kept) {
			t.Fatal("rows share memory")
		}
	}
}

func TestMemory(t *testing.T) {
	c := newChance(11)
	for range 1000 {
		d := c.twin(c.dfa(6))
		room := roomy(d)
		for range 2 {
			m, blocks := mini.Min(room), mini.Blocks(room)
			if !same(m, minModel(d)) || !reflect.DeepEqual(ownRows(blocks), blocksModel(d)) || !mini.Equal(room, d) || !mini.Equal(room, room) {
				t.Fatal("another answer the second time")
			}
			s, ok := mini.Apart(room, 0, 1)
			if again, still := mini.Apart(room, 0, 1); s != again || ok != still {
				t.Fatal("another text the second time")
			}
			scribble(t, append(slices.Clone(m.Next), m.Tag))
			scribble(t, blocks)
			if !stays(room, d) {
				t.Fatal("what was handed in was changed")
			}
		}
		m, blocks := mini.Min(room), mini.Blocks(room)
		scribble(t, append(slices.Clone(room.Next), room.Tag))
		if !same(m, minModel(d)) || !reflect.DeepEqual(ownRows(blocks), blocksModel(d)) {
			t.Fatal("an answer has memory of the argument")
		}
	}
}

// One row may stand in several places of what is handed in.
func TestRowsThatAreOne(t *testing.T) {
	row := []int{1, 2}
	d := dfa.Dfa{Classes: class.Part(octs.Of('a')), Next: [][]int{row, row, row}, Tag: row[:1:1]}
	d.Tag = append(d.Tag, 2, 3)
	m := mini.Min(d)
	if !same(m, d) || len(mini.Blocks(d)) != 3 {
		t.Error(shown(m))
	}
	scribble(t, append(slices.Clone(m.Next), m.Tag))
	if !slices.Equal(row, []int{1, 2}) {
		t.Error("changed")
	}
}
