package dfa_test

import (
	"math"
	"slices"
	"strconv"
	"strings"
	"testing"

	"hackle/api"
	"hackle/class"
	"hackle/dfa"
	"hackle/nfa"
	"hackle/octs"
)

// P9.1

func TestSubsetExample(t *testing.T) {
	d := ofTexts(t, "a", "ab")
	want := dfa.Dfa{
		Classes: class.Part(octs.Of('a'), octs.Of('b')),
		Next:    [][]int{{-1, 1, -1}, {-1, -1, 2}, {-1, -1, -1}},
		Tag:     []int{-1, 0, 1},
	}
	if !same(d, want) {
		t.Error(shown(d))
	}
	if at := dfa.Run(d, "ab"); at != 2 {
		t.Error("ab:", at)
	}
	if at := dfa.Run(d, "b"); at != -1 {
		t.Error("b:", at)
	}
}

func TestSubsetByHand(t *testing.T) {
	for _, x := range []struct {
		rules []string
		next  [][]int
		tag   []int
	}{
		// Classes are numbered by their least bytes: here 0 all others, 1 a, 2 b, 3 c.
		{[]string{"()"}, [][]int{{-1}}, []int{0}},
		{[]string{"[]"}, [][]int{{-1}}, []int{-1}},
		{[]string{"[]", "()"}, [][]int{{-1}}, []int{1}},
		{[]string{"."}, [][]int{{1}, {-1}}, []int{-1, 0}},
		{[]string{".*"}, [][]int{{1}, {1}}, []int{0, 0}},
		{[]string{"a*"}, [][]int{{-1, 1}, {-1, 1}}, []int{0, 0}},
		{[]string{"(a|b)*"}, [][]int{{-1, 1, 2}, {-1, 1, 2}, {-1, 1, 2}}, []int{0, 0, 0}},
		{[]string{"[ab]*"}, [][]int{{-1, 1}, {-1, 1}}, []int{0, 0}},
		{[]string{"a", "a"}, [][]int{{-1, 1}, {-1, -1}}, []int{-1, 0}},
		{[]string{"b", "a"}, [][]int{{-1, 1, 2}, {-1, -1, -1}, {-1, -1, -1}}, []int{-1, 1, 0}},
		{[]string{"ab|ba"}, [][]int{{-1, 1, 2}, {-1, -1, 3}, {-1, 4, -1}, {-1, -1, -1}, {-1, -1, -1}}, []int{-1, -1, -1, 0, 0}},
		{[]string{"a(b|c)|c"}, [][]int{{-1, 1, -1, 2}, {-1, -1, 3, 4}, {-1, -1, -1, -1}, {-1, -1, -1, -1}, {-1, -1, -1, -1}}, []int{-1, -1, 0, 0, 0}},
		{[]string{"\\xff", ".a"}, [][]int{{1, 1, 2}, {-1, 3, -1}, {-1, 3, -1}, {-1, -1, -1}}, []int{-1, -1, 0, 1}},
		{[]string{"a[]|b", "ba[]"}, [][]int{{-1, 1, 2}, {-1, -1, -1}, {-1, 3, -1}, {-1, -1, -1}}, []int{-1, -1, 0, -1}},
		{[]string{"a{2}", "a{3}", "a*"}, [][]int{{-1, 1}, {-1, 2}, {-1, 3}, {-1, 4}, {-1, 4}}, []int{2, 2, 0, 1, 2}},
		{[]string{"(a|b)*a(a|b)"}, [][]int{{-1, 1, 2}, {-1, 3, 4}, {-1, 1, 2}, {-1, 3, 4}, {-1, 1, 2}}, []int{-1, -1, -1, 0, 0}},
	} {
		rules := parsed(t, x.rules...)
		n := choices(t, rules...)
		d, e := dfa.Subset(n)
		if want := (dfa.Dfa{Classes: class.Part(n.Sets...), Next: x.next, Tag: x.tag}); e != api.OK || !same(d, want) {
			t.Errorf("%v: %d, %s", x.rules, e, shown(d))
		}
	}
}

// Of automata that are those of no rules: the first state may be as another one is, and is none of them even so.
func TestSubsetOfOtherAutomata(t *testing.T) {
	none := class.Part()
	for name, x := range map[string]struct {
		n nfa.Nfa
		d dfa.Dfa
	}{
		"zero":            {nfa.Nfa{}, dfa.Dfa{Classes: none, Next: [][]int{{-1}}, Tag: []int{0}}},
		"no place":        {nfa.Nfa{Empty: -1}, dfa.Dfa{Classes: none, Next: [][]int{{-1}}, Tag: []int{-1}}},
		"no place, 39":    {nfa.Nfa{Empty: 39}, dfa.Dfa{Classes: none, Next: [][]int{{-1}}, Tag: []int{39}}},
		"no first place":  {nfa.Nfa{Sets: []api.Set{octs.Of(0)}, Rules: []int{3}, Follow: [][]int{{0}}, Ends: []bool{true}, Empty: 2}, dfa.Dfa{Classes: class.Part(octs.Of(0)), Next: [][]int{{-1, -1}}, Tag: []int{2}}},
		"all again":       {nfa.Nfa{Sets: []api.Set{octs.Of(0)}, Rules: []int{3}, First: []int{0}, Follow: [][]int{{0}}, Ends: []bool{true}, Empty: 3}, dfa.Dfa{Classes: class.Part(octs.Of(0)), Next: [][]int{{1, -1}, {1, -1}}, Tag: []int{3, 3}}},
		"the least rule":  {nfa.Nfa{Sets: make3(octs.Of(7)), Rules: []int{5, 39, 4}, First: []int{0, 1, 2}, Follow: [][]int{{1}, nil, nil}, Ends: []bool{true, true, true}, Empty: -1}, dfa.Dfa{Classes: class.Part(octs.Of(7)), Next: [][]int{{-1, 1}, {-1, 2}, {-1, -1}}, Tag: []int{-1, 4, 39}}},
		"ends alone tell": {nfa.Nfa{Sets: make3(octs.Of(7)), Rules: []int{5, 39, 4}, First: []int{0, 1, 2}, Follow: [][]int{{1}, {2}, nil}, Ends: []bool{true, true, false}, Empty: 0}, dfa.Dfa{Classes: class.Part(octs.Of(7)), Next: [][]int{{-1, 1}, {-1, 2}, {-1, 3}, {-1, -1}}, Tag: []int{0, 5, 39, -1}}},
	} {
		if d, e := dfa.Subset(x.n); e != api.OK || !same(d, x.d) {
			t.Errorf("%s: %d, %s", name, e, shown(d))
		}
	}
}

func make3(s api.Set) []api.Set { return []api.Set{s, s, s} }

func TestSubsetAgainstModel(t *testing.T) {
	c, most := newChance(1), 0
	for i := range 3000 {
		n := c.nfa(14)
		if i%3 == 0 {
			var e api.Errno
			if n, e = nfa.Build(parsed(t, c.expressions()...)); e != api.OK || len(n.Sets) > 200 {
				continue
			}
		}
		d, e := dfa.Subset(n)
		want, ok := subsetModel(n, api.MaxStates)
		if (e == api.OK) != ok || !same(d, want) || ok && !dfa.May(d) {
			t.Fatalf("%v: %d, %s, want %s", n, e, shown(d), shown(want))
		}
		most = max(most, len(d.Next))
	}
	if most < 50 {
		t.Error("too few states:", most)
	}
}

// Places of all words of a row of bits: each step from place to place is told by one state.
func TestSubsetOfAllPlaces(t *testing.T) {
	for _, from := range []int{0, 1, 62, 63, 64, 65, 127, 128, 1000, 1400, 1401} {
		n := chain(from, 599)
		d, e := dfa.Subset(n)
		if e != api.OK || len(d.Next) != 600 {
			t.Fatal(from, e, len(d.Next))
		}
		for at, row := range d.Next {
			want := []int{at + 1, -1}
			if at == 599 {
				want[0] = -1
			}
			if !slices.Equal(row, want) || d.Tag[at] != []int{n.Empty, at % 40}[min(at, 1)] {
				t.Fatal(from, at, row, d.Tag[at])
			}
		}
	}
}

// chain is an automaton of as many places as may be, of which one leads to the next one, from one place on, so many; each ends as another rule.
func chain(from, many int) nfa.Nfa {
	n := nfa.Nfa{Empty: 7, First: []int{from}}
	for p := range api.MaxNfa {
		n.Sets = append(n.Sets, octs.Range(0, 99))
		n.Rules = append(n.Rules, (p-from+1+4000)%40)
		n.Ends = append(n.Ends, true)
		n.Follow = append(n.Follow, nil)
		if p >= from && p < from+many-1 {
			n.Follow[p] = []int{p + 1}
		}
	}
	return n
}

// Each byte is a class of its own.
func TestSubsetOfAllClasses(t *testing.T) {
	n := nfa.Nfa{Empty: -1}
	for b := range 256 {
		n.Sets = append(n.Sets, octs.Of(byte(255-b)))
		n.First, n.Rules = append(n.First, b), append(n.Rules, b%40)
		n.Ends = append(n.Ends, b%2 == 0)
	}
	for range 256 {
		n.Follow = append(n.Follow, n.First)
	}
	d := subsets(t, n)
	if len(d.Next) != 257 || d.Classes.N != 256 {
		t.Fatal(len(d.Next), d.Classes.N)
	}
	for at, row := range d.Next {
		for k, to := range row {
			if to != k+1 {
				t.Fatal(at, k, to)
			}
		}
		want := -1
		if p := 256 - at; at > 0 && p%2 == 0 { // the state at has the place whose byte is at - 1
			want = p % 40
		}
		if d.Tag[at] != want {
			t.Fatal("tag:", at, d.Tag[at], want)
		}
	}
}

func TestSubsetAtTheLimit(t *testing.T) {
	for _, x := range []struct {
		text   string
		states int
	}{
		{"(a{50}){11}a{49}", 600},
		{"(a{50}){12}", 601},
		{"(a{50}){40}", 2001},
		{"(a|b)*a(a|b){7}", 257},
		{"(a|b)*a(a|b){8}", 513},
		{"(a|b)*a(a|b){9}", 1025},
		{"(a|b)*a(a|b){30}", 1<<31 + 1},
	} {
		d, e := dfa.Subset(choices(t, parsed(t, x.text)...))
		if x.states > api.MaxStates {
			if e != api.ErrMany || !isZero(d) {
				t.Error(x.text, e, shown(d))
			}
		} else if e != api.OK || len(d.Next) != x.states || !dfa.May(d) {
			t.Error(x.text, e, len(d.Next))
		}
	}
}

// fan is an automaton whose last state leads to so many others, each by a byte of its own: behind as many states in a row as there are ahead.
func fan(ahead, many int) nfa.Nfa {
	n := chain(0, ahead)
	for p := range n.Sets {
		n.Sets[p] = octs.Range(0, 255)
	}
	for b := range many {
		p := api.MaxNfa - many + b
		n.Sets[p] = octs.Of(byte(b))
		n.Follow[ahead-1] = append(n.Follow[ahead-1], p)
	}
	return n
}

func TestSubsetAtTheLimitWithinAState(t *testing.T) {
	for _, x := range []struct{ ahead, many int }{{499, 99}, {499, 100}, {499, 101}, {344, 255}, {344, 256}, {598, 1}, {598, 2}, {597, 2}, {1, 256}} {
		d, e := dfa.Subset(fan(x.ahead, x.many))
		want := 1 + x.ahead + x.many
		if want > api.MaxStates {
			if e != api.ErrMany || !isZero(d) {
				t.Error(x, e, shown(d))
			}
		} else if e != api.OK || len(d.Next) != want {
			t.Error(x, e, len(d.Next))
		}
	}
}

// As many places as may be, each of which all may follow: no more than that is gone along for each state.
func TestSubsetOfManyPlaces(t *testing.T) {
	all := nfa.Nfa{Empty: -1}
	for p := range api.MaxNfa {
		all.First = append(all.First, p)
	}
	c := newChance(2)
	for p := range api.MaxNfa {
		var s api.Set
		for i := range s {
			s[i] = c.Uint64()
		}
		all.Sets, all.Rules = append(all.Sets, s), append(all.Rules, p%40)
		all.Follow, all.Ends = append(all.Follow, all.First), append(all.Ends, true)
	}
	d, e := dfa.Subset(all)
	if e != api.OK || len(d.Next) != 257 || d.Classes.N != 256 {
		t.Fatal(e, len(d.Next), d.Classes.N)
	}
	for p := range all.Follow {
		all.Follow[p] = c.row(api.MaxNfa, 2)
	}
	all.First = c.row(api.MaxNfa, 2)
	if d, e := dfa.Subset(all); e != api.ErrMany && (e != api.OK || len(d.Next) < 257) {
		t.Fatal(e, len(d.Next))
	}
}

// grown is n with a place more.
func grown(n nfa.Nfa) nfa.Nfa {
	n.Sets, n.Rules = append(n.Sets, api.Set{}), append(n.Rules, 0)
	n.Follow, n.Ends = append(n.Follow, nil), append(n.Ends, false)
	return n
}

// good is an automaton with choices, of 4 places.
func good() nfa.Nfa {
	a := octs.Of('a')
	return nfa.Nfa{
		Sets:   []api.Set{a, a, a, a},
		Rules:  []int{2, 0, 39, 1},
		First:  []int{0, 1, 3},
		Follow: [][]int{{0, 1, 2, 3}, {1}, {}, {0, 3}},
		Ends:   []bool{true, true, true, true},
		Empty:  39,
	}
}

func TestSubsetOfWhatMayNotBe(t *testing.T) {
	if d, e := dfa.Subset(good()); e != api.OK || isZero(d) {
		t.Fatal("a good one:", e)
	}
	for name, how := range map[string]func(n *nfa.Nfa){
		"a Set less":           func(n *nfa.Nfa) { n.Sets = n.Sets[:3] },
		"a Set more":           func(n *nfa.Nfa) { n.Sets = append(n.Sets, api.Set{}) },
		"no Set":               func(n *nfa.Nfa) { n.Sets = nil },
		"a rule less":          func(n *nfa.Nfa) { n.Rules = n.Rules[:3] },
		"a row less":           func(n *nfa.Nfa) { n.Follow = n.Follow[:3] },
		"a row more":           func(n *nfa.Nfa) { n.Follow = append(n.Follow, nil) },
		"an end less":          func(n *nfa.Nfa) { n.Ends = n.Ends[:3] },
		"the rule 40":          func(n *nfa.Nfa) { n.Rules[3] = 40 },
		"the rule -1":          func(n *nfa.Nfa) { n.Rules[0] = -1 },
		"Empty 40":             func(n *nfa.Nfa) { n.Empty = 40 },
		"Empty -2":             func(n *nfa.Nfa) { n.Empty = -2 },
		"first place too far":  func(n *nfa.Nfa) { n.First = []int{4} },
		"first place below 0":  func(n *nfa.Nfa) { n.First = []int{-1} },
		"first place far away": func(n *nfa.Nfa) { n.First = []int{0, math.MaxInt} },
		"falling":              func(n *nfa.Nfa) { n.First = []int{1, 0} },
		"what follows falls":   func(n *nfa.Nfa) { n.Follow[2] = []int{3, 2} },
		"twice":                func(n *nfa.Nfa) { n.Follow[2] = []int{2, 2} },
		"behind too far":       func(n *nfa.Nfa) { n.Follow[0] = []int{4} },
		"behind below 0":       func(n *nfa.Nfa) { n.Follow[0] = []int{math.MinInt} },
		"too many places":      func(n *nfa.Nfa) { *n = grown(chain(0, 5)) },
		"too many both ways":   func(n *nfa.Nfa) { *n = grown(chain(0, 2000)) },
	} {
		n := good()
		how(&n)
		if d, e := dfa.Subset(n); e != api.ErrArg || !isZero(d) {
			t.Errorf("%s: %d, %s", name, e, shown(d))
		}
	}
}

// P9.2

// plain is an automaton of 4 states and 3 classes: of all others, of a and c, and of b.
func plain() dfa.Dfa {
	return dfa.Dfa{
		Classes: class.Part(octs.Of('a', 'c'), octs.Of('b')),
		Next:    [][]int{{-1, 1, 2}, {3, 1, -1}, {0, -1, 2}, {-1, -1, -1}},
		Tag:     []int{-1, 39, 0, 7},
	}
}

// spoilt is automata that may not be.
func spoilt() map[string]dfa.Dfa {
	l := map[string]dfa.Dfa{"zero": {}, "a state of no class": {Next: [][]int{{}}, Tag: []int{0}}}
	spoil := func(name string, how func(d *dfa.Dfa)) {
		d := plain()
		how(&d)
		l[name] = d
	}
	spoil("no classes", func(d *dfa.Dfa) { d.Classes = class.Classes{} })
	spoil("N less", func(d *dfa.Dfa) { d.Classes.N = 2 })
	spoil("N less, rows too", func(d *dfa.Dfa) {
		d.Classes.N = 2
		for at := range d.Next {
			d.Next[at] = d.Next[at][:2]
		}
	})
	spoil("N more, rows too", func(d *dfa.Dfa) {
		d.Classes.N = 4
		for at := range d.Next {
			d.Next[at] = append(d.Next[at], -1)
		}
	})
	spoil("classes the other way round", func(d *dfa.Dfa) { d.Classes.Of['a'], d.Classes.Of['b'] = 2, 1 })
	spoil("a class that isn't there", func(d *dfa.Dfa) { d.Classes.Of[255] = 255 })
	spoil("another partition", func(d *dfa.Dfa) { d.Classes = class.Part() })
	spoil("a tag less", func(d *dfa.Dfa) { d.Tag = d.Tag[:3] })
	spoil("a tag more", func(d *dfa.Dfa) { d.Tag = append(d.Tag, 0) })
	spoil("no tag", func(d *dfa.Dfa) { d.Tag = nil })
	spoil("a row less", func(d *dfa.Dfa) { d.Next = d.Next[:3] })
	spoil("a row more", func(d *dfa.Dfa) { d.Next = append(d.Next, []int{-1, -1, -1}) })
	spoil("no row", func(d *dfa.Dfa) { d.Next = nil })
	spoil("too many states", func(d *dfa.Dfa) { *d = wide(api.MaxStates + 1) })
	spoil("a last state too many, to which others lead", func(d *dfa.Dfa) { *d = wide(api.MaxStates + 1); d.Next[5][0] = api.MaxStates })
	for at := range 4 {
		name := "of " + strconv.Itoa(at)
		spoil("a next state less "+name, func(d *dfa.Dfa) { d.Next[at] = d.Next[at][:2] })
		spoil("a next state more "+name, func(d *dfa.Dfa) { d.Next[at] = append(d.Next[at], -1) })
		spoil("no next state "+name, func(d *dfa.Dfa) { d.Next[at] = nil })
		for _, to := range []int{4, -2, 600, math.MaxInt, math.MinInt} {
			for k := range 3 {
				spoil("next "+strconv.Itoa(to)+" by "+strconv.Itoa(k)+" "+name, func(d *dfa.Dfa) { d.Next[at][k] = to })
			}
		}
		for _, tag := range []int{40, -2, math.MaxInt, math.MinInt} {
			spoil("tag "+strconv.Itoa(tag)+" "+name, func(d *dfa.Dfa) { d.Tag[at] = tag })
		}
	}
	return l
}

// wide is an automaton of so many states, of which one leads to the next one.
func wide(many int) dfa.Dfa {
	d := dfa.Dfa{Classes: class.Part()}
	for at := range many {
		d.Next, d.Tag = append(d.Next, []int{at + 1}), append(d.Tag, at%41-1)
	}
	d.Next[many-1][0] = -1
	return d
}

func TestMay(t *testing.T) {
	for name, d := range map[string]dfa.Dfa{
		"plain":            plain(),
		"no state":         {Classes: class.Part()},
		"no state, 3":      {Classes: plain().Classes, Next: [][]int{}, Tag: []int{}},
		"all states":       wide(api.MaxStates),
		"one state":        wide(1),
		"to itself":        {Classes: class.Part(), Next: [][]int{{0}}, Tag: []int{39}},
		"256 classes":      {Classes: each(), Next: [][]int{make([]int, 256)}, Tag: []int{-1}},
		"not to be got at": {Classes: class.Part(), Next: [][]int{{-1}, {0}, {2}}, Tag: []int{-1, -1, -1}},
	} {
		if !dfa.May(d) {
			t.Error(name)
		}
	}
	for name, d := range spoilt() {
		if dfa.May(d) {
			t.Error(name)
		}
	}
	for _, n := range []int{255, 257} {
		if dfa.May(dfa.Dfa{Classes: each(), Next: [][]int{make([]int, n)}, Tag: []int{-1}}) {
			t.Error("of 256 classes:", n)
		}
	}
}

// each is the partition that tells all bytes apart.
func each() class.Classes {
	var l []api.Set
	for b := range 256 {
		l = append(l, octs.Of(byte(b)))
	}
	return class.Part(l...)
}

func TestStepByHand(t *testing.T) {
	d := plain()
	for at, want := range [][4]int{{1, 2, 1, -1}, {1, -1, 1, 3}, {-1, 2, -1, 0}, {-1, -1, -1, -1}} {
		for i, b := range []byte("abcd") {
			if to := dfa.Step(d, at, b); to != want[i] {
				t.Errorf("Step(%d, %c): %d, want %d", at, b, to, want[i])
			}
		}
		for _, b := range []byte{0, 'a' - 1, 128, 255} {
			if to := dfa.Step(d, at, b); to != want[3] {
				t.Errorf("Step(%d, %d): %d, want %d", at, b, to, want[3])
			}
		}
	}
	for _, at := range []int{-1, -2, 4, 5, 600, 1 << 32, math.MaxInt, math.MinInt} {
		for _, b := range []byte("abc\x00\xff") {
			if to := dfa.Step(d, at, b); to != -1 {
				t.Errorf("of no state: Step(%d, %d): %d", at, b, to)
			}
		}
	}
	for _, at := range []int{-1, 0, 1} {
		if to := dfa.Step(dfa.Dfa{Classes: class.Part()}, at, 'a'); to != -1 {
			t.Errorf("without states: Step(%d): %d", at, to)
		}
	}
}

func TestRunAndTagByHand(t *testing.T) {
	d := plain()
	for s, want := range map[string][2]int{
		"":           {0, -1},
		"a":          {1, 39},
		"c":          {1, 39},
		"b":          {2, 0},
		"x":          {-1, -1},
		"ac":         {1, 39},
		"ab":         {-1, -1},
		"aba":        {-1, -1},
		"a\x00":      {3, 7},
		"a\xff":      {3, 7},
		"axx":        {-1, -1},
		"bb":         {2, 0},
		"b.":         {0, -1},
		"b.b.c":      {1, 39},
		"b.b.c\x80":  {3, 7},
		"b.b.c\x80a": {-1, -1},
		"ba":         {-1, -1},
	} {
		if at, tag := dfa.Run(d, s), dfa.Tag(d, s); at != want[0] || tag != want[1] {
			t.Errorf("%q: %d, %d, want %v", s, at, tag, want)
		}
	}
	for _, s := range []string{"", "a", "\x00", "aa"} {
		if at, tag := dfa.Run(dfa.Dfa{Classes: class.Part()}, s), dfa.Tag(dfa.Dfa{Classes: class.Part()}, s); at != -1 || tag != -1 {
			t.Errorf("without states: %q: %d, %d", s, at, tag)
		}
	}
}

func TestRunsAgainstModel(t *testing.T) {
	c, got := newChance(3), 0
	for range 2000 {
		d := c.dfa(8)
		for range 20 {
			s := c.text("aabbc\x00\x3f\x40\xff", 8)
			at, tag := dfa.Run(d, s), dfa.Tag(d, s)
			if at != runModel(d, s) || tag != tagModel(d, s) {
				t.Fatalf("%s: %q: %d, %d, want %d, %d", shown(d), s, at, tag, runModel(d, s), tagModel(d, s))
			}
			if tag >= 0 {
				got++
			}
		}
		for at := -2; at < 10; at++ {
			for _, b := range []byte("abc\x00\x3f\x40\xff") {
				if to := dfa.Step(d, at, b); to != stepModel(d, at, b) {
					t.Fatalf("%s: Step(%d, %d): %d, want %d", shown(d), at, b, to, stepModel(d, at, b))
				}
			}
		}
	}
	if got < 2000 {
		t.Error("too few texts with a tag:", got)
	}
}

func TestLongRuns(t *testing.T) {
	d := ofTexts(t, "(a{3})*", "(a{5})+b?")
	for _, x := range []struct{ as, tag int }{{0, 0}, {100_000, 1}, {99_999, 0}, {99_990, 0}, {99_998, -1}, {1 << 24, -1}, {1<<24 + 2, 0}} {
		if tag := dfa.Tag(d, strings.Repeat("a", x.as)); tag != x.tag {
			t.Error(x.as, tag)
		}
	}
	if at := dfa.Run(d, "b"+strings.Repeat("a", 1<<24)); at != -1 {
		t.Error("b ahead:", at)
	}
	d = wide(api.MaxStates)
	for _, n := range []int{0, 1, 598, 599, 600, 601} {
		want := n
		if n > 599 {
			want = -1
		}
		if at := dfa.Run(d, strings.Repeat("x", n)); at != want {
			t.Error(n, at)
		}
	}
}

func TestTrimByHand(t *testing.T) {
	one, two := class.Part(), class.Part(octs.Of('a'))
	for name, x := range map[string]struct{ d, want dfa.Dfa }{
		"plain":                     {plain(), plain()},
		"no state":                  {dfa.Dfa{Classes: two}, dfa.Dfa{Classes: two}},
		"no tag":                    {dfa.Dfa{Classes: two, Next: [][]int{{0, 1}, {1, 0}}, Tag: []int{-1, -1}}, dfa.Dfa{Classes: two}},
		"a tag alone":               {dfa.Dfa{Classes: one, Next: [][]int{{-1}}, Tag: []int{0}}, dfa.Dfa{Classes: one, Next: [][]int{{-1}}, Tag: []int{0}}},
		"a tag that isn't reached":  {dfa.Dfa{Classes: one, Next: [][]int{{0}, {0}}, Tag: []int{-1, 5}}, dfa.Dfa{Classes: one}},
		"one that isn't reached":    {dfa.Dfa{Classes: one, Next: [][]int{{2}, {2}, {-1}}, Tag: []int{-1, 1, 39}}, dfa.Dfa{Classes: one, Next: [][]int{{1}, {-1}}, Tag: []int{-1, 39}}},
		"one that leads to no tag":  {dfa.Dfa{Classes: two, Next: [][]int{{1, 2}, {1, -1}, {-1, 1}}, Tag: []int{-1, -1, 0}}, dfa.Dfa{Classes: two, Next: [][]int{{-1, 1}, {-1, -1}}, Tag: []int{-1, 0}}},
		"numbered anew":             {dfa.Dfa{Classes: two, Next: [][]int{{2, 1}, {-1, -1}, {0, 2}}, Tag: []int{-1, 3, -1}}, dfa.Dfa{Classes: two, Next: [][]int{{1, 2}, {0, 1}, {-1, -1}}, Tag: []int{-1, -1, 3}}},
		"a tag on the way":          {dfa.Dfa{Classes: one, Next: [][]int{{1}, {2}, {2}}, Tag: []int{-1, 4, -1}}, dfa.Dfa{Classes: one, Next: [][]int{{1}, {-1}}, Tag: []int{-1, 4}}},
		"the first one with a tag":  {dfa.Dfa{Classes: one, Next: [][]int{{1}, {1}}, Tag: []int{2, -1}}, dfa.Dfa{Classes: one, Next: [][]int{{-1}}, Tag: []int{2}}},
		"the tag behind all others": {dfa.Dfa{Classes: one, Next: [][]int{{3}, {-1}, {1}, {2}}, Tag: []int{-1, 0, -1, -1}}, dfa.Dfa{Classes: one, Next: [][]int{{1}, {2}, {3}, {-1}}, Tag: []int{-1, -1, -1, 0}}},
		"round and round":           {dfa.Dfa{Classes: two, Next: [][]int{{1, 2}, {0, 1}, {2, 3}, {3, 2}}, Tag: []int{-1, 6, -1, -1}}, dfa.Dfa{Classes: two, Next: [][]int{{1, -1}, {0, 1}}, Tag: []int{-1, 6}}},
		"found by the class first":  {dfa.Dfa{Classes: two, Next: [][]int{{3, 2}, {-1, -1}, {1, -1}, {4, 2}, {-1, -1}}, Tag: []int{-1, 1, -1, -1, 4}}, dfa.Dfa{Classes: two, Next: [][]int{{1, 2}, {3, 2}, {4, -1}, {-1, -1}, {-1, -1}}, Tag: []int{-1, -1, -1, 4, 1}}},
	} {
		if got := dfa.Trim(x.d); !same(got, x.want) {
			t.Errorf("%s: %s, want %s", name, shown(got), shown(x.want))
		}
	}
}

func TestTrimAgainstModel(t *testing.T) {
	c, fewer := newChance(4), 0
	for range 5000 {
		d := c.dfa(9)
		got, want := dfa.Trim(d), trimModel(d)
		if !same(got, want) || !dfa.May(got) {
			t.Fatalf("%s: %s, want %s", shown(d), shown(got), shown(want))
		}
		if len(got.Next) > 2 && len(got.Next) < len(d.Next) {
			fewer++
		}
		if !same(dfa.Trim(got), got) {
			t.Fatalf("%s: trimmed twice: %s", shown(d), shown(got))
		}
	}
	if fewer < 500 {
		t.Error("too few are trimmed, and don't vanish:", fewer)
	}
}

func TestTrimOfGreatAutomata(t *testing.T) {
	d := wide(api.MaxStates)
	for at := range d.Tag {
		d.Tag[at] = -1
	}
	if got := dfa.Trim(d); !same(got, dfa.Dfa{Classes: d.Classes}) {
		t.Error("no tag:", shown(got))
	}
	d.Tag[599] = 3
	if got := dfa.Trim(d); !same(got, d) {
		t.Error("a tag at last:", shown(got))
	}
}

// turning is as many states as may be, of 256 classes: from each to the next 256 ones, as they come or the other way round.
func turning(back bool) dfa.Dfa {
	d := dfa.Dfa{Classes: each()}
	for at := range api.MaxStates {
		row := make([]int, 256)
		for k := range row {
			by := k + 1
			if back {
				by = 256 - k
			}
			row[k] = (at + by) % api.MaxStates
		}
		d.Next, d.Tag = append(d.Next, row), append(d.Tag, at%41-1)
	}
	return d
}

func TestTrimOfAllClasses(t *testing.T) {
	d := turning(false)
	if got := dfa.Trim(d); !same(got, d) {
		t.Error("as they come:", len(got.Next))
	}
	d.Tag = slices.Repeat([]int{-1}, api.MaxStates)
	if got := dfa.Trim(d); len(got.Next) != 0 {
		t.Error("no tag:", len(got.Next))
	}
	d = turning(true)
	names := []int{0}
	for _, l := range [][2]int{{256, 1}, {512, 257}, {599, 513}} {
		for at := l[0]; at >= l[1]; at-- {
			names = append(names, at)
		}
	}
	want := dfa.Dfa{Classes: d.Classes}
	for _, at := range names {
		row := make([]int, 256)
		for k, to := range d.Next[at] {
			row[k] = slices.Index(names, to)
		}
		want.Next, want.Tag = append(want.Next, row), append(want.Tag, d.Tag[at])
	}
	if got := dfa.Trim(d); !same(got, want) {
		t.Error("the other way round:", len(got.Next))
	}
}

func TestOfWhatMayNotBe(t *testing.T) {
	for name, d := range spoilt() {
		if got := dfa.Trim(d); !isZero(got) {
			t.Errorf("%s: Trim: %s", name, shown(got))
		}
		for _, s := range []string{"", "a", "b", "c", "aa", "a.", "x"} {
			if at, tag := dfa.Run(d, s), dfa.Tag(d, s); at != -1 || tag != -1 {
				t.Errorf("%s: %q: %d, %d", name, s, at, tag)
			}
		}
		for _, at := range []int{-1, 0, 1, 2, 3, 4, 600, math.MaxInt, math.MinInt} {
			for _, b := range []byte("abcd\x00\xff") {
				if to := dfa.Step(d, at, b); to != -1 {
					t.Errorf("%s: Step(%d, %d): %d", name, at, b, to)
				}
			}
		}
	}
}

func TestSame(t *testing.T) {
	l := []dfa.Dfa{plain(), {}, {Classes: class.Part()}, {Next: [][]int{nil}}, {Next: [][]int{nil, nil}}, {Tag: []int{0}}, {Tag: []int{0, 0}}, {Next: [][]int{{0}}}, {Next: [][]int{{}, {0}}}, {Next: [][]int{{0}, {}}}, {Next: [][]int{{0, 0}}}}
	for _, d := range spoilt() {
		if !slices.ContainsFunc(l, func(x dfa.Dfa) bool { return same(x, d) }) {
			l = append(l, d)
		}
	}
	for i, x := range l {
		for j, y := range l {
			if dfa.Same(x, own(y)) != (i == j) {
				t.Errorf("%s and %s", shown(x), shown(y))
			}
		}
	}
	if !dfa.Same(dfa.Dfa{Next: [][]int{}, Tag: []int{}}, dfa.Dfa{}) || !dfa.Same(dfa.Dfa{Next: [][]int{nil}}, dfa.Dfa{Next: [][]int{{}}}) {
		t.Error("nil and empty are one and the same")
	}
}

// P9.3

func TestTagsOfRules(t *testing.T) {
	for _, x := range []struct {
		rules []string
		tags  map[string]int
	}{
		{[]string{"if", "[a-z]+"}, map[string]int{"i": 1, "if": 0, "iff": 1, "fi": 1, "": -1, "I": -1, "1": -1}},
		{[]string{"[a-z]+", "if"}, map[string]int{"i": 0, "if": 0, "iff": 0}},
		{[]string{"a(b|c)*", "ab?"}, map[string]int{"": -1, "a": 0, "ab": 0, "abcb": 0, "b": -1, "aba": -1}},
		{[]string{"a{2}", "a{3,}", "a*"}, map[string]int{"": 2, "a": 2, "aa": 0, "aaa": 1, "aaaa": 1}},
		{[]string{"[]", "[]*", "a[]|b"}, map[string]int{"": 1, "a": -1, "b": 2, "ab": -1}},
		{[]string{"\\r\\n", ".\\x00"}, map[string]int{"\r\n": 0, "\r\x00": 1, "\n\x00": 1, "\x00": -1, "\x00\x00": 1, "\xff\x00": 1}},
	} {
		d := ofTexts(t, x.rules...)
		trimmed := dfa.Trim(d)
		for s, want := range x.tags {
			if tag, again := dfa.Tag(d, s), dfa.Tag(trimmed, s); tag != want || again != want {
				t.Errorf("%v: %q: %d, trimmed %d, want %d", x.rules, s, tag, again, want)
			}
		}
	}
}

func TestTextsOfRules(t *testing.T) {
	c, asked, tagged, led := newChance(5), append(over("ab", 5), over("abc", 3)...), 0, 0
	for range 700 {
		rules := parsed(t, c.expressions()...)
		n, e := nfa.Build(rules)
		if e != api.OK || len(n.Sets) > 150 {
			continue
		}
		d, e := dfa.Subset(n)
		if e != api.OK {
			continue
		}
		trimmed := dfa.Trim(d)
		for _, s := range asked {
			_, tag := nfa.Run(n, s)
			want, begun := firstRule(rules, s), begins(rules, s)
			if got, again := dfa.Tag(d, s), dfa.Tag(trimmed, s); got != want || again != want || tag != want {
				t.Fatalf("%v: %q: %d, trimmed %d, want %d", rules, s, got, again, want)
			}
			if (dfa.Run(trimmed, s) >= 0) != begun {
				t.Fatalf("%v: %q: begins %v, behind it %d", rules, s, begun, dfa.Run(trimmed, s))
			}
			if want > 0 {
				tagged++
			}
			if begun && want < 0 {
				led++
			}
		}
	}
	if tagged < 2000 || led < 2000 {
		t.Error("too few texts of a rule behind the first one, or that lead to one:", tagged, led)
	}
}

func TestTrimmedTellsTheSame(t *testing.T) {
	c, asked := newChance(6), over("ab\xff", 4)
	for range 1500 {
		d := c.dfa(8)
		trimmed := dfa.Trim(d)
		for _, s := range asked {
			at := runModel(d, s)
			if dfa.Tag(trimmed, s) != tagModel(d, s) {
				t.Fatalf("%s: %q: %d", shown(d), s, dfa.Tag(trimmed, s))
			}
			if begun := at >= 0 && tagBehind(d, at); begun != (dfa.Run(trimmed, s) >= 0) {
				t.Fatalf("%s: %q: begins %v", shown(d), s, begun)
			}
		}
	}
}

// Rule 5, memory, and rule 6

// ownChoices is an automaton with choices in new memory, each list with room behind it in which something stands.
func ownChoices(n nfa.Nfa) nfa.Nfa {
	row := func(l []int) []int { return append(slices.Clone(l), -5)[:len(l)] }
	c := nfa.Nfa{Rules: row(n.Rules), First: row(n.First), Empty: n.Empty}
	c.Sets = append(slices.Clone(n.Sets), octs.Of('r'))[:len(n.Sets)]
	c.Ends = append(slices.Clone(n.Ends), true)[:len(n.Ends)]
	for _, l := range n.Follow {
		c.Follow = append(c.Follow, row(l))
	}
	return c
}

// roomStays tells whether ownChoices's lists are those of n, and what stood in their room still stands there.
func roomStays(own, n nfa.Nfa) bool {
	row := func(x, y []int) bool { return slices.Equal(x, y) && x[:len(x)+1][len(x)] == -5 }
	all := len(n.Sets)
	return row(own.Rules, n.Rules) && row(own.First, n.First) && own.Empty == n.Empty &&
		slices.Equal(own.Sets, n.Sets) && own.Sets[:all+1][all] == octs.Of('r') &&
		slices.Equal(own.Ends, n.Ends) && own.Ends[:all+1][all] && slices.EqualFunc(own.Follow, n.Follow, row)
}

func TestSubsetKeepsOutOfWhatItIsHanded(t *testing.T) {
	c := newChance(7)
	for range 500 {
		n := c.nfa(10)
		room := ownChoices(n)
		d := subsets(t, room)
		if !roomStays(room, n) {
			t.Fatal("changed")
		}
		kept, other := own(d), subsets(t, room)
		for _, l := range append(room.Follow, room.Rules, room.First) {
			for i := range l {
				l[i] = -9
			}
		}
		clear(room.Sets)
		clear(room.Ends)
		if !same(d, kept) || !same(other, kept) {
			t.Fatal("memory of the argument, or another answer the second time")
		}
		scribble(t, d)
		if !same(other, kept) || !same(subsets(t, n), kept) {
			t.Fatal("two answers share memory")
		}
	}
}

// scribble changes all of an automaton, and asks that no list comes into another one.
func scribble(t *testing.T, d dfa.Dfa) {
	t.Helper()
	kept := own(d)
	_, _ = append(d.Tag, -7, -7), append(d.Next, nil, nil)
	for at, row := range d.Next {
		_ = append(row, -7, -7, -7)
		if !same(d, kept) {
			t.Fatal("a row that grows comes into another one")
		}
		for k := range row {
			row[k], kept.Next[at][k] = -8-at, -8-at
		}
		if !same(d, kept) {
			t.Fatal("rows share memory")
		}
	}
	for at := range d.Tag {
		d.Tag[at], kept.Tag[at] = -9, -9
	}
	if !same(d, kept) {
		t.Fatal("tags share memory with rows")
	}
}

// roomy is an automaton in new memory, each list with room behind it in which something stands.
func roomy(d dfa.Dfa) dfa.Dfa {
	row := func(l []int) []int { return append(slices.Clone(l), -5)[:len(l)] }
	c := dfa.Dfa{Classes: d.Classes, Tag: row(d.Tag)}
	for _, l := range d.Next {
		c.Next = append(c.Next, row(l))
	}
	c.Next = append(c.Next, []int{-5})[:len(d.Next)]
	return c
}

func stays(room, d dfa.Dfa) bool {
	row := func(x, y []int) bool { return slices.Equal(x, y) && x[:len(x)+1][len(x)] == -5 }
	all := len(d.Next)
	return room.Classes == d.Classes && row(room.Tag, d.Tag) && slices.EqualFunc(room.Next, d.Next, row) && slices.Equal(room.Next[:all+1][all], []int{-5})
}

func TestTheOthersKeepOutOfWhatTheyAreHanded(t *testing.T) {
	c := newChance(8)
	for range 2000 {
		d := c.dfa(8)
		room := roomy(d)
		s := c.text("ab\xff", 4)
		for range 2 {
			trimmed := dfa.Trim(room)
			if !same(trimmed, trimModel(d)) || dfa.Run(room, s) != runModel(d, s) || dfa.Tag(room, s) != tagModel(d, s) || !dfa.May(room) || !dfa.Same(room, d) {
				t.Fatal("another answer the second time")
			}
			dfa.Step(room, 1, 'a')
			scribble(t, trimmed)
			if !stays(room, d) {
				t.Fatal("what was handed in was changed")
			}
		}
		trimmed := dfa.Trim(room)
		scribble(t, room)
		if !same(trimmed, trimModel(d)) {
			t.Fatal("an answer has memory of the argument")
		}
	}
}

// One row may stand in several places of what is handed in.
func TestRowsThatAreOne(t *testing.T) {
	row := []int{1, 2}
	d := dfa.Dfa{Classes: class.Part(octs.Of('a')), Next: [][]int{row, row, row}, Tag: []int{0, 1, 2}}
	got := dfa.Trim(d)
	if !same(got, d) {
		t.Error(shown(got))
	}
	scribble(t, got)
	if !slices.Equal(row, []int{1, 2}) {
		t.Error("changed")
	}
}
