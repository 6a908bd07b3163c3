package table_test

import (
	"math"
	"reflect"
	"slices"
	"strconv"
	"strings"
	"testing"

	"hackle/api"
	"hackle/class"
	"hackle/dfa"
	"hackle/lang"
	"hackle/mini"
	"hackle/nfa"
	"hackle/octs"
	"hackle/rx"
	"hackle/table"
)

// P11.1

func TestExample(t *testing.T) {
	x := made(t, "a", "ab*c")
	want := table.Table{
		Dfa: dfa.Dfa{
			Classes: class.Part(octs.Of('a'), octs.Of('b'), octs.Of('c')),
			Next:    [][]int{{-1, 1, -1, -1}, {-1, -1, 2, 3}, {-1, -1, 2, 3}, {-1, -1, -1, -1}},
			Tag:     []int{-1, 0, -1, 1},
		},
		Live: []bool{true, true, true, false},
	}
	if !same(x, want) || !table.May(x) {
		t.Error(shown(x))
	}
	if far, longest, tag := table.Match(x, "abbd", 9); far != 3 || longest != 1 || tag != 0 {
		t.Error(far, longest, tag)
	}
	if l := table.Texts(x, 3); !slices.Equal(l, []string{"a", "ac", "abc"}) {
		t.Errorf("%q", l)
	}
}

func TestMakeByHand(t *testing.T) {
	for _, x := range []struct {
		rules []string
		next  [][]int
		tag   []int
		live  []bool
	}{
		{[]string{"a"}, [][]int{{-1, 1}, {-1, -1}}, []int{-1, 0}, []bool{true, false}},
		{[]string{"."}, [][]int{{1}, {-1}}, []int{-1, 0}, []bool{true, false}},
		{[]string{".+"}, [][]int{{1}, {1}}, []int{-1, 0}, []bool{true, true}},
		{[]string{"a+"}, [][]int{{-1, 1}, {-1, 1}}, []int{-1, 0}, []bool{true, true}},
		{[]string{"a", "[]"}, [][]int{{-1, 1}, {-1, -1}}, []int{-1, 0}, []bool{true, false}},
		{[]string{"[]", "a[]", "a"}, [][]int{{-1, 1}, {-1, -1}}, []int{-1, 2}, []bool{true, false}},
		{[]string{"a", "a"}, [][]int{{-1, 1}, {-1, -1}}, []int{-1, 0}, []bool{true, false}},
		{[]string{"a[]|b"}, [][]int{{-1, 1}, {-1, -1}}, []int{-1, 0}, []bool{true, false}},
		{[]string{"ac|bc"}, [][]int{{-1, 1, -1}, {-1, -1, 2}, {-1, -1, -1}}, []int{-1, -1, 0}, []bool{true, true, false}},
		{[]string{"a", "[ab]", "ad?"}, [][]int{{-1, 1, 2, -1}, {-1, -1, -1, 3}, {-1, -1, -1, -1}, {-1, -1, -1, -1}}, []int{-1, 0, 1, 2}, []bool{true, true, false, false}},
		{[]string{"a(a|b)*"}, [][]int{{-1, 1, -1}, {-1, 1, 1}}, []int{-1, 0}, []bool{true, true}},
	} {
		got := made(t, x.rules...)
		want := table.Table{Dfa: dfa.Dfa{Classes: got.Classes, Next: x.next, Tag: x.tag}, Live: x.live}
		if !same(got, want) || !table.May(got) {
			t.Errorf("%q: %s", x.rules, shown(got))
		}
	}
	rules := slices.Repeat([]string{"[]"}, 39)
	if x := made(t, append(rules, "a")...); !slices.Equal(x.Tag, []int{-1, 39}) {
		t.Error("40 rules:", x.Tag)
	}
}

func TestMakeAgainstModel(t *testing.T) {
	c := newChance(1)
	var got [2]int
	for range 2000 {
		rules := parsed(t, c.expressions()...)
		x, e := table.Make(rules)
		want, e1 := makeModel(rules)
		if e != e1 || !same(x, want) || table.May(x) != (e == api.OK) {
			t.Fatalf("%v: %s, %d, want %s, %d", rules, shown(x), e, shown(want), e1)
		}
		if e == api.ErrEmpty {
			got[0]++
		} else if e == api.OK && len(x.Next) > 3 {
			got[1]++
		}
	}
	if got[0] < 200 || got[1] < 400 {
		t.Error("too few are empty, or have states:", got)
	}
}

func TestMakeErrors(t *testing.T) {
	bad := api.Re{Kind: 5}
	parse := func(l ...string) []api.Re { return parsed(t, l...) }
	a := parse("a")[0]
	for name, x := range map[string]struct {
		rules []api.Re
		e     api.Errno
	}{
		"no rules":                             {nil, api.ErrArg},
		"none, with room":                      {make([]api.Re, 0, 4), api.ErrArg},
		"40 rules":                             {slices.Repeat([]api.Re{a}, 40), api.OK},
		"41 rules":                             {slices.Repeat([]api.Re{a}, 41), api.ErrArg},
		"one that may not be":                  {[]api.Re{bad}, api.ErrArg},
		"the last one":                         {[]api.Re{a, bad}, api.ErrArg},
		"it, ahead of an empty one":            {append(parse("a*"), bad), api.ErrArg},
		"it, ahead of too many places":         {append(parse("(a{50}){41}"), bad), api.ErrArg},
		"2000 places, 501 states":              {slices.Repeat(parse("(a{50}){10}"), 4), api.OK},
		"2000 places, 2001 states":             {parse("(a{50}){40}"), api.ErrMany},
		"2001 places, 501 states":              {append(slices.Repeat(parse("(a{50}){10}"), 4), a), api.ErrMany},
		"too many places, ahead of no text":    {parse("((a{50}){40}a)[]"), api.ErrMany},
		"too many places, ahead of empty text": {parse("((a{50}){40}a)?"), api.ErrMany},
		"600 states":                           {parse("(a{40}){14}a{39}"), api.OK},
		"601 states":                           {parse("(a{40}){15}"), api.ErrMany},
		"601 states, of which few stay":        {parse("(a{40}){15}[]", "a"), api.ErrMany},
		"601 states, ahead of empty text":      {parse("(a{40}){15}", "a?"), api.ErrMany},
		"601 states, ahead of no text":         {parse("(a{40}){15}[]"), api.ErrMany},
		"states by subsets":                    {parse("(a|b)*a(a|b){9}c"), api.ErrMany},
		"empty text":                           {parse("()"), api.ErrEmpty},
		"empty text, by the last rule":         {parse("a", "b", "c?"), api.ErrEmpty},
		"empty text, by the first rule":        {parse("a*", "b"), api.ErrEmpty},
		"empty text of a part":                 {parse("a|b?"), api.ErrEmpty},
		"empty text, and others none":          {parse("[]", "()"), api.ErrEmpty},
		"no text":                              {parse("[]"), api.ErrEmpty},
		"no text of any":                       {parse("[]", "a[]", "[]*b[]"), api.ErrEmpty},
		"no text, or the empty one":            {parse("[]*"), api.ErrEmpty},
		"a text of one":                        {parse("[]", "a[]", "a"), api.OK},
	} {
		got, e := table.Make(x.rules)
		if e != x.e || isZero(got) != (e != api.OK) || table.May(got) != (e == api.OK) {
			t.Errorf("%s: %s, %d", name, shown(got), e)
		}
	}
}

func TestMakeAtTheLimit(t *testing.T) {
	x := made(t, "(a{40}){14}a{39}")
	if len(x.Next) != 600 || !slices.Equal(x.Live, append(slices.Repeat([]bool{true}, 599), false)) || x.Tag[599] != 0 || !table.May(x) {
		t.Error(shown(x))
	}
	s := strings.Repeat("a", 600)
	if far, longest, tag := table.Match(x, s, 4096); far != 599 || longest != 599 || tag != 0 {
		t.Error(far, longest, tag)
	}
	if l := table.Texts(x, 2); !slices.Equal(l, []string{s[1:]}) {
		t.Error(len(l))
	}
}

// plain is an automaton of 7 states and 3 classes, of which some are alike, and one is not reached.
func plain() dfa.Dfa {
	return dfa.Dfa{
		Classes: class.Part(octs.Of('a', 'c'), octs.Of('b')),
		Next:    [][]int{{-1, 1, 2}, {3, 4, 3}, {5, 6, -1}, {3, -1, 3}, {-1, 5, -1}, {-1, -1, 3}, {0, 1, 6}},
		Tag:     []int{-1, -1, 0, -1, -1, 39, 7},
	}
}

func TestOfByHand(t *testing.T) {
	one, two := class.Part(), class.Part(octs.Of('a'))
	for name, x := range map[string]struct {
		d    dfa.Dfa
		want table.Table
		e    api.Errno
	}{
		"plain": {plain(), table.Table{
			Dfa: dfa.Dfa{
				Classes: plain().Classes,
				Next:    [][]int{{-1, 1, 2}, {-1, 3, -1}, {4, 5, -1}, {-1, 4, -1}, {-1, -1, -1}, {0, 1, 5}},
				Tag:     []int{-1, -1, 0, -1, 39, 7},
			},
			Live: []bool{true, true, true, true, false, true},
		}, api.OK},
		"classes joined":        {dfa.Dfa{Classes: plain().Classes, Next: [][]int{{1, -1, 1}, {-1, -1, -1}}, Tag: []int{-1, 3}}, table.Table{Dfa: dfa.Dfa{Classes: class.Part(octs.Of('a', 'c')), Next: [][]int{{1, -1}, {-1, -1}}, Tag: []int{-1, 3}}, Live: []bool{true, false}}, api.OK},
		"numbered anew":         {dfa.Dfa{Classes: two, Next: [][]int{{2, 1}, {-1, -1}, {2, 1}}, Tag: []int{-1, 5, 6}}, table.Table{Dfa: dfa.Dfa{Classes: two, Next: [][]int{{1, 2}, {1, 2}, {-1, -1}}, Tag: []int{-1, 6, 5}}, Live: []bool{true, true, false}}, api.OK},
		"to a state as none":    {dfa.Dfa{Classes: two, Next: [][]int{{2, 1}, {2, 2}, {2, 2}}, Tag: []int{-1, 5, -1}}, table.Table{Dfa: dfa.Dfa{Classes: two, Next: [][]int{{-1, 1}, {-1, -1}}, Tag: []int{-1, 5}}, Live: []bool{true, false}}, api.OK},
		"back to the first one": {dfa.Dfa{Classes: one, Next: [][]int{{1}, {0}}, Tag: []int{-1, 5}}, table.Table{Dfa: dfa.Dfa{Classes: one, Next: [][]int{{1}, {0}}, Tag: []int{-1, 5}}, Live: []bool{true, true}}, api.OK},
		"zero":                  {dfa.Dfa{}, table.Table{}, api.ErrArg},
		"no state":              {dfa.Dfa{Classes: one}, table.Table{}, api.ErrEmpty},
		"one state":             {dfa.Dfa{Classes: one, Next: [][]int{{0}}, Tag: []int{-1}}, table.Table{}, api.ErrEmpty},
		"no tag":                {dfa.Dfa{Classes: two, Next: [][]int{{0, 1}, {1, 0}}, Tag: []int{-1, -1}}, table.Table{}, api.ErrEmpty},
		"a tag not reached":     {dfa.Dfa{Classes: two, Next: [][]int{{0, -1}, {1, 0}}, Tag: []int{-1, 3}}, table.Table{}, api.ErrEmpty},
		"the empty text's":      {dfa.Dfa{Classes: two, Next: [][]int{{0, 1}, {1, 0}}, Tag: []int{0, 3}}, table.Table{}, api.ErrEmpty},
		"the empty text's, 39":  {dfa.Dfa{Classes: two, Next: [][]int{{-1, -1}}, Tag: []int{39}}, table.Table{}, api.ErrEmpty},
	} {
		if got, e := table.Of(x.d); !same(got, x.want) || e != x.e || table.May(got) != (e == api.OK) {
			t.Errorf("%s: %s, %d, want %s, %d", name, shown(got), e, shown(x.want), x.e)
		}
	}
}

func TestOfAgainstModel(t *testing.T) {
	c, some := newChance(2), 0
	for range 3000 {
		d := c.dfa(9)
		got, e := table.Of(d)
		want, e1 := ofModel(d)
		if !same(got, want) || e != e1 || table.May(got) != (e == api.OK) {
			t.Fatalf("%s: %s, %d, want %s, %d", shown(table.Table{Dfa: d}), shown(got), e, shown(want), e1)
		}
		if len(got.Next) > 3 {
			some++
		}
	}
	if some < 300 {
		t.Error("too few of some states:", some)
	}
}

// spoiltDfa is automata that may not be.
func spoiltDfa() map[string]dfa.Dfa {
	l := map[string]dfa.Dfa{"zero": {}, "a state of no class": {Next: [][]int{{}}, Tag: []int{0}}}
	spoil := func(name string, how func(d *dfa.Dfa)) {
		d := plain()
		how(&d)
		l[name] = d
	}
	spoil("no classes", func(d *dfa.Dfa) { d.Classes = class.Classes{} })
	spoil("N less", func(d *dfa.Dfa) { d.Classes.N = 2 })
	spoil("N more", func(d *dfa.Dfa) { d.Classes.N = 4 })
	spoil("classes the other way round", func(d *dfa.Dfa) { d.Classes.Of['a'], d.Classes.Of['b'] = 2, 1 })
	spoil("a tag less", func(d *dfa.Dfa) { d.Tag = d.Tag[:6] })
	spoil("a tag more", func(d *dfa.Dfa) { d.Tag = append(d.Tag, 0) })
	spoil("no tag", func(d *dfa.Dfa) { d.Tag = nil })
	spoil("a row less", func(d *dfa.Dfa) { d.Next = d.Next[:6] })
	spoil("no row", func(d *dfa.Dfa) { d.Next = nil })
	spoil("no row, no tag", func(d *dfa.Dfa) { *d = dfa.Dfa{Classes: class.Classes{N: 1}, Tag: []int{0}} })
	spoil("too many states", func(d *dfa.Dfa) { *d = wide(api.MaxStates + 1) })
	for at := range 7 {
		name := " of " + strconv.Itoa(at)
		spoil("a next state less"+name, func(d *dfa.Dfa) { d.Next[at] = d.Next[at][:2] })
		spoil("a next state more"+name, func(d *dfa.Dfa) { d.Next[at] = append(d.Next[at], -1) })
		for _, to := range []int{7, -2, 600, math.MaxInt, math.MinInt} {
			spoil("next "+strconv.Itoa(to)+name, func(d *dfa.Dfa) { d.Next[at][at%3] = to })
		}
		for _, tag := range []int{40, -2, math.MaxInt, math.MinInt} {
			spoil("tag "+strconv.Itoa(tag)+name, func(d *dfa.Dfa) { d.Tag[at] = tag })
		}
	}
	return l
}

// wide is an automaton of so many states, of which one leads to the next one.
func wide(many int) dfa.Dfa {
	d := dfa.Dfa{Classes: class.Part()}
	for at := range many {
		d.Next, d.Tag = append(d.Next, []int{at + 1}), append(d.Tag, -1)
	}
	d.Next[many-1][0], d.Tag[many-1] = -1, 0
	return d
}

func TestOfWhatMayNotBe(t *testing.T) {
	for name, d := range spoiltDfa() {
		if got, e := table.Of(d); !isZero(got) || e != api.ErrArg {
			t.Errorf("%s: %s, %d", name, shown(got), e)
		}
		for _, live := range [][]bool{nil, {true, true, true, true, false, true}, {true, true, true, true, true, true, true}, slices.Repeat([]bool{true}, 600), slices.Repeat([]bool{true}, 601)} {
			refused(t, name, table.Table{Dfa: d, Live: live})
		}
	}
}

// refused asks that a table may not be, and tells nothing.
func refused(t *testing.T, name string, x table.Table) {
	t.Helper()
	far, longest, tag := table.Match(x, "aba", 9)
	if table.May(x) || far != 0 || longest != 0 || tag != -1 || len(table.Texts(x, 9)) != 0 {
		t.Errorf("%s: %v, %d, %d, %d, %q", name, table.May(x), far, longest, tag, table.Texts(x, 9))
	}
}

// P11.2

func TestMayByHand(t *testing.T) {
	live := func(d dfa.Dfa) table.Table { return table.Table{Dfa: d, Live: liveModel(d)} }
	one, two := class.Part(), class.Part(octs.Of('a'))
	good := of(t, plain())
	for name, x := range map[string]struct {
		x    table.Table
		want bool
	}{
		"plain":              {good, true},
		"two states":         {live(dfa.Dfa{Classes: one, Next: [][]int{{1}, {-1}}, Tag: []int{-1, 0}}), true},
		"back":               {live(dfa.Dfa{Classes: two, Next: [][]int{{0, 1}, {0, 1}}, Tag: []int{-1, 39}}), true},
		"zero":               {table.Table{}, false},
		"no state":           {live(dfa.Dfa{Classes: one}), false},
		"no tag":             {live(dfa.Dfa{Classes: one, Next: [][]int{{0}}, Tag: []int{-1}}), false},
		"a tag at first":     {live(dfa.Dfa{Classes: one, Next: [][]int{{0}}, Tag: []int{0}}), false},
		"it and others":      {live(dfa.Dfa{Classes: one, Next: [][]int{{1}, {-1}}, Tag: []int{39, 0}}), false},
		"not trimmed":        {live(dfa.Dfa{Classes: one, Next: [][]int{{1}, {2}, {-1}}, Tag: []int{-1, 0, -1}}), false},
		"not reached":        {live(dfa.Dfa{Classes: one, Next: [][]int{{1}, {-1}, {-1}}, Tag: []int{-1, 0, 1}}), false},
		"two alike":          {live(dfa.Dfa{Classes: two, Next: [][]int{{1, 2}, {-1, -1}, {-1, -1}}, Tag: []int{-1, 3, 3}}), false},
		"two that tags part": {live(dfa.Dfa{Classes: two, Next: [][]int{{1, 2}, {-1, -1}, {-1, -1}}, Tag: []int{-1, 3, 4}}), true},
		"two found late":     {live(dfa.Dfa{Classes: two, Next: [][]int{{2, 1}, {-1, -1}, {-1, -1}}, Tag: []int{-1, 3, 4}}), false},
		"two classes alike":  {live(dfa.Dfa{Classes: two, Next: [][]int{{1, 1}, {-1, -1}}, Tag: []int{-1, 3}}), false},
		"the automaton":      {live(plain()), false},
		"no live":            {table.Table{Dfa: good.Dfa}, false},
		"a live one less":    {table.Table{Dfa: good.Dfa, Live: good.Live[:5]}, false},
		"a live one more":    {table.Table{Dfa: good.Dfa, Live: append(slices.Clone(good.Live), false)}, false},
		"all live":           {table.Table{Dfa: good.Dfa, Live: slices.Repeat([]bool{true}, 6)}, false},
	} {
		if table.May(x.x) != x.want {
			t.Errorf("%s: %s", name, shown(x.x))
		}
		if !x.want {
			refused(t, name, x.x)
		}
	}
	for at := range good.Live {
		x := own(good)
		x.Live[at] = !x.Live[at]
		refused(t, "live "+strconv.Itoa(at), x)
	}
}

func TestMayAgainstModel(t *testing.T) {
	c := newChance(3)
	var got [2]int
	for range 6000 {
		d := c.dfa(7)
		want := mayModel(d)
		if table.May(table.Table{Dfa: d, Live: liveModel(d)}) != want {
			t.Fatalf("%s: want %v", shown(table.Table{Dfa: d}), want)
		}
		if want && len(d.Next) > 2 {
			got[0]++
		} else if !want && len(d.Next) > 2 {
			got[1]++
		}
	}
	if got[0] < 100 || got[1] < 1000 {
		t.Error("too few may, or may not:", got)
	}
}

// A table with a change of one thing.
func TestMayOfOtherTables(t *testing.T) {
	c := newChance(4)
	var got [2]int
	for range 3000 {
		x := own(c.table(7))
		at := c.Intn(len(x.Next))
		switch c.Intn(3) {
		case 0:
			x.Tag[at] = c.tag(2)
		case 1:
			x.Next[at][c.Intn(x.Classes.N)] = c.Intn(len(x.Next)+1) - 1
		case 2:
			x.Live[at] = c.Intn(2) == 0
		}
		want := mayModel(x.Dfa) && slices.Equal(x.Live, liveModel(x.Dfa))
		if table.May(x) != want {
			t.Fatalf("%s: want %v", shown(x), want)
		}
		got[map[bool]int{true: 1}[want]]++
	}
	if got[0] < 400 || got[1] < 400 {
		t.Error("too few may, or may not:", got)
	}
}

func TestMatchByHand(t *testing.T) {
	x, y := made(t, "a", "ab*c"), made(t, "\\x00\\xff", "\\x00", "[\\x80-\\xff]+\\n")
	for _, z := range []struct {
		x                        table.Table
		s                        string
		limit, far, longest, tag int
	}{
		{x, "abbd", 9, 3, 1, 0}, {x, "abbc", 9, 4, 4, 1}, {x, "abbcc", 9, 4, 4, 1}, {x, "abbcabc", 9, 4, 4, 1}, {x, "abb", 9, 3, 1, 0},
		{x, "", 9, 0, 0, -1}, {x, "x", 9, 0, 0, -1}, {x, "xa", 9, 0, 0, -1}, {x, "b", 9, 0, 0, -1}, {x, "\x00", 9, 0, 0, -1}, {x, "\xff", 9, 0, 0, -1},
		{x, "a", 9, 1, 1, 0}, {x, "aa", 9, 1, 1, 0}, {x, "ac", 9, 2, 2, 1}, {x, "aca", 9, 2, 2, 1},
		{x, "abbc", 4, 4, 4, 1}, {x, "abbc", 3, 4, 1, 0}, {x, "abbc", 2, 3, 1, 0}, {x, "abbc", 1, 2, 1, 0},
		{x, "ac", 2, 2, 2, 1}, {x, "ac", 1, 2, 1, 0}, {x, "a", 1, 1, 1, 0}, {x, "acc", 1, 2, 1, 0},
		{x, "abbc", 4096, 4, 4, 1}, {x, "abbc", 4097, 0, 0, -1}, {x, "abbc", 0, 0, 0, -1}, {x, "abbc", -1, 0, 0, -1},
		{x, "abbc", math.MaxInt, 0, 0, -1}, {x, "abbc", math.MinInt, 0, 0, -1}, {x, "", 0, 0, 0, -1},
		{y, "\x00", 9, 1, 1, 1}, {y, "\x00\xff", 9, 2, 2, 0}, {y, "\x00\xff", 1, 2, 1, 1}, {y, "\x00\xfe", 9, 1, 1, 1},
		{y, "\x80\xff\x90\n\n", 9, 4, 4, 2}, {y, "\x80\xff\x90\n", 3, 4, 0, -1}, {y, "\x80\xff\x90\n", 2, 3, 0, -1}, {y, "\x80\x7f", 9, 1, 0, -1}, {y, "\x7f", 9, 0, 0, -1}, {y, "é\n", 9, 3, 3, 2},
	} {
		if far, longest, tag := table.Match(z.x, z.s, z.limit); far != z.far || longest != z.longest || tag != z.tag {
			t.Errorf("%q, %d: %d, %d, %d", z.s, z.limit, far, longest, tag)
		}
	}
}

func TestMatchOfLongTexts(t *testing.T) {
	x, y, s := made(t, "a+"), made(t, "ab", "a*c"), strings.Repeat("a", 5000)
	for _, limit := range []int{1, 2, 599, 600, 601, 4095, 4096} {
		if far, longest, tag := table.Match(x, s, limit); far != limit+1 || longest != limit || tag != 0 {
			t.Error(limit, far, longest, tag)
		}
		if far, longest, tag := table.Match(x, s[:limit], limit); far != limit || longest != limit || tag != 0 {
			t.Error("just so many:", limit, far, longest, tag)
		}
		if far, longest, tag := table.Match(y, s, limit); far != limit+1 || longest != 0 || tag != -1 {
			t.Error("none as yet:", limit, far, longest, tag)
		}
		if far, longest, tag := table.Match(y, s[:limit-1]+"c", limit); far != limit || longest != limit || tag != 1 {
			t.Error("the last one:", limit, far, longest, tag)
		}
		if far, longest, tag := table.Match(y, s[:limit]+"c", limit); far != limit+1 || longest != 0 || tag != -1 {
			t.Error("one behind it:", limit, far, longest, tag)
		}
	}
	for _, limit := range []int{0, -1, 4097, 5000, 1 << 32, 1<<32 + 1} {
		if far, longest, tag := table.Match(x, s, limit); far != 0 || longest != 0 || tag != -1 {
			t.Error(limit, far, longest, tag)
		}
	}
}

func TestMatchAgainstModel(t *testing.T) {
	c := newChance(5)
	var got [3]int
	for range 800 {
		x := c.table(8)
		for range 20 {
			s, limit := c.text("aab\x00\x3f\xff", 9), c.Intn(10)-1
			far, longest, tag := table.Match(x, s, limit)
			if limit < 1 {
				if far != 0 || longest != 0 || tag != -1 {
					t.Fatal(limit, far, longest, tag)
				}
				continue
			}
			if far1, longest1, tag1 := matchModel(x, s, limit); far != far1 || longest != longest1 || tag != tag1 {
				t.Fatalf("%s: %q, %d: %d, %d, %d, want %d, %d, %d", shown(x), s, limit, far, longest, tag, far1, longest1, tag1)
			}
			got[0] += min(tag+1, 1)
			got[1] += min(far-longest, 1)
			got[2] += min(max(far-limit, 0), 1)
		}
	}
	if slices.Min(got[:]) < 1000 {
		t.Error("too few with a tag, that go farther, that are cut off:", got)
	}
}

// P11.3

func TestTextsByHand(t *testing.T) {
	for _, x := range []struct {
		rules []string
		n     int
		want  []string
	}{
		{[]string{"a", "ab*c"}, 3, []string{"a", "ac", "abc"}},
		{[]string{"a", "ab*c"}, 1, []string{"a"}},
		{[]string{"a", "ab*c"}, 0, nil},
		{[]string{"a", "ab*c"}, -1, nil},
		{[]string{"a", "ab*c"}, math.MinInt, nil},
		{[]string{"a"}, 1, []string{"a"}},
		{[]string{"a"}, 2, []string{"a"}},
		{[]string{"a"}, math.MaxInt, []string{"a"}},
		{[]string{"[a-c]d|e"}, 9, []string{"e", "ad"}},
		{[]string{"[a-c]d|e", "b"}, 9, []string{"b", "e", "ad", "bd"}},
		{[]string{"aaaa|bb|c"}, 9, []string{"c", "bb", "aaaa"}},
		{[]string{"cab|acb|bca|abc"}, 9, []string{"abc", "acb", "bca", "cab"}},
		{[]string{"cab|acb", "bca|abc"}, 3, []string{"abc", "acb", "bca"}},
		{[]string{"z|\\xff|\\x80|\\x7f|\\x00|a."}, 9, []string{"\x00", "a\x00", "a\x01", "aa"}},
		{[]string{"z", "\\xff", "\\x80", "\\x7f", "\\x00", "a."}, 9, []string{"\x00", "z", "\x7f", "\x80", "\xff", "a\x00", "a\x01", "aa", "az"}},
		{[]string{"a[^a]|b[^\\x00]"}, 9, []string{"a\x00", "a\x01", "ab", "b\x01", "ba", "bb"}},
		{[]string{".x"}, 9, []string{"\x00x", "xx"}},
		{[]string{"(aaa)+"}, 3, []string{"aaa", "aaaaaa", "aaaaaaaaa"}},
		{[]string{"(aaa)+b|c"}, 3, []string{"c", "aaab", "aaaaaab"}},
		{[]string{"a{5}|b{9}|b[]"}, 9, []string{"aaaaa", "bbbbbbbbb"}},
		{[]string{"a+", "aaa"}, 4, []string{"a", "aa", "aaa", "aaaa"}},
		{[]string{"(a|b)+"}, 3, []string{"a", "aa", "aaa"}},
		{[]string{"b", "(a|b)+"}, 7, []string{"a", "b", "aa", "ab", "ba", "bb", "aaa"}},
	} {
		if got := table.Texts(made(t, x.rules...), x.n); !slices.Equal(got, x.want) {
			t.Errorf("%q, %d: %q", x.rules, x.n, got)
		}
	}
}

func TestTextsAtTheLimit(t *testing.T) {
	x := made(t, "a+")
	for _, n := range []int{199, 200, 201, 1000, math.MaxInt} {
		got := table.Texts(x, n)
		if len(got) != min(n, 200) {
			t.Fatal(n, len(got))
		}
		for i, s := range got {
			if s != strings.Repeat("a", i+1) {
				t.Fatal(n, i, s)
			}
		}
	}
	for rule, many := range map[string]int{"a{1,50}(b{50}){0,2}": 150, "a{2,50}(b{50}){0,3}|a": 197, "a{1,50}(b{50}){0,3}": 200, "a{1,50}(b{50}){0,3}|c": 201, "a{1,50}(b{50}){0,4}": 250} {
		got := table.Texts(made(t, rule), 1000)
		if len(got) != min(many, 200) || !slices.IsSortedFunc(got, func(s, z string) int { return len(s) - len(z) }) {
			t.Error(rule, len(got))
		}
	}
}

func TestTextsAgainstModel(t *testing.T) {
	c := newChance(6)
	var got [3]int
	for range 2500 {
		x, n := c.table(8), c.Intn(30)-2
		l := table.Texts(x, n)
		if want := textsModel(x, n); !slices.Equal(l, want) {
			t.Fatalf("%s: %d: %q, want %q", shown(x), n, l, want)
		}
		if len(l) < n {
			got[0]++
		} else if n > 3 && len(l[n-1]) > 3 {
			got[1]++
		} else if n > 3 {
			got[2]++
		}
	}
	if slices.Min(got[:]) < 300 {
		t.Error("too few that end, with long texts, with many short ones:", got)
	}
}

// All of some hundred texts, or the first ones of very many.
func TestManyTextsAgainstModel(t *testing.T) {
	for _, rule := range []string{"(a|bc?){1,4}d|[bd]{2,5}", "[ab]{3}[bc]{3}", "(a|bb){1,9}c", "((a|b)c){1,6}", "([ab][bc]){4}", "(a|b|c)+d|b", "([ab]{2}c)*b"} {
		x := made(t, rule)
		if got, want := table.Texts(x, 500), textsModel(x, 200); !slices.Equal(got, want) {
			t.Errorf("%s: %d, want %d", rule, len(got), len(want))
		}
	}
}

// each is the partition that tells all bytes apart.
func each() class.Classes {
	var l []api.Set
	for b := range 256 {
		l = append(l, octs.Of(byte(b)))
	}
	return class.Part(l...)
}

// ring is so many states, from each of which one byte leads to the next one, round and round, and the last one has a tag.
func ring(many int) dfa.Dfa {
	d := dfa.Dfa{Classes: each()}
	for at := range many {
		row := slices.Repeat([]int{-1}, 256)
		row[at%256] = (at + 1) % many
		d.Next, d.Tag = append(d.Next, row), append(d.Tag, -1)
	}
	d.Tag[many-1] = 0
	return d
}

// Texts that are as long as may be, and one that is asked for.
func TestTextsOfARing(t *testing.T) {
	x := of(t, ring(600))
	got := table.Texts(x, 1000)
	if len(got) != 200 {
		t.Fatal(len(got))
	}
	for i, s := range got {
		if len(s) != 600*i+599 {
			t.Fatal(i, len(s))
		}
		for j := range len(s) {
			if s[j] != byte(j%600%256) {
				t.Fatal(i, j, s[j])
			}
		}
	}
	if far, longest, tag := table.Match(x, got[5], 3000); far != 3001 || longest != 2999 || tag != 0 {
		t.Error(far, longest, tag)
	}
}

// From each state each byte leads to another state: so that there are very many texts of each length.
func TestTextsOfManySteps(t *testing.T) {
	d := dfa.Dfa{Classes: each()}
	for at := range 600 {
		row := make([]int, 256)
		for k := range row {
			row[k] = (at + k + 1) % 600
		}
		d.Next, d.Tag = append(d.Next, row), append(d.Tag, -1)
	}
	d.Tag[599] = 7
	x := of(t, d)
	var want []string // of three bytes, which are 596 in all
	for i := range 256 {
		for j := range 256 {
			if k := 596 - i - j; k >= 0 && k < 256 {
				want = append(want, string([]byte{byte(i), byte(j), byte(k)}))
			}
		}
	}
	for _, n := range []int{1, 9, 200} {
		if got := table.Texts(x, n); !slices.Equal(got, want[:n]) {
			t.Errorf("%d: %q", n, got)
		}
	}
}

// P11.4

func TestOfRules(t *testing.T) {
	c, all, got := newChance(7), append(over("ab", 5), over("abc", 3)...), [4]int{}
	for range 200 {
		rules := parsed(t, c.expressions()...)
		x, e := table.Make(rules)
		if e != api.OK {
			continue
		}
		for _, s := range all {
			limit := 1 + c.Intn(6)
			far, longest, tag := table.Match(x, s, limit)
			far1, longest1, tag1 := ofRules(rules, s, limit)
			if far != far1 || longest != longest1 || tag != tag1 {
				t.Fatalf("%v: %q, %d: %d, %d, %d, want %d, %d, %d", rules, s, limit, far, longest, tag, far1, longest1, tag1)
			}
			got[min(max(tag, -1)+1, 2)]++
			if far > limit {
				got[3]++
			}
		}
	}
	if slices.Min(got[:]) < 500 {
		t.Error("too few of no rule, the first one, others, or beyond the limit:", got)
	}
}

// ofRules is a match by what the rules themselves say.
func ofRules(rules []api.Re, s string, limit int) (far, longest, tag int) {
	tag = -1
	for n := 0; n <= len(s) && n <= limit+1; n++ {
		if slices.ContainsFunc(rules, func(re api.Re) bool { return lang.Begins(re, s[:n]) }) {
			far = n
		}
		if first := slices.IndexFunc(rules, func(re api.Re) bool { return lang.Takes(re, s[:n]) }); first >= 0 && n <= limit {
			longest, tag = n, first
		}
	}
	return far, longest, tag
}

func TestTextsAreOfRules(t *testing.T) {
	c, some := newChance(8), 0
	for range 500 {
		rules := parsed(t, c.expressions()...)
		x, _ := table.Make(rules)
		for _, s := range table.Texts(x, 12) {
			first := slices.IndexFunc(rules, func(re api.Re) bool { return lang.Takes(re, s) })
			if far, longest, tag := table.Match(x, s, 4096); first < 0 || far != len(s) || longest != len(s) || tag != first {
				t.Fatalf("%v: %q: %d, %d, %d, want %d", rules, s, far, longest, tag, first)
			}
			some++
		}
	}
	if some < 1000 {
		t.Error("too few texts:", some)
	}
}

// Rule 5, memory, and rule 6

// roomy is a table in new memory, each list with room behind it in which something stands.
func roomy(x table.Table) table.Table {
	row := func(l []int) []int { return append(slices.Clone(l), -5)[:len(l)] }
	c := table.Table{Dfa: dfa.Dfa{Classes: x.Classes, Tag: row(x.Tag)}, Live: append(slices.Clone(x.Live), true)[:len(x.Live)]}
	for _, l := range x.Next {
		c.Next = append(c.Next, row(l))
	}
	c.Next = append(c.Next, []int{-5})[:len(x.Next)]
	return c
}

func stays(room, x table.Table) bool {
	row := func(l, k []int) bool { return slices.Equal(l, k) && l[:len(l)+1][len(l)] == -5 }
	all := len(x.Next)
	return room.Classes == x.Classes && row(room.Tag, x.Tag) && slices.EqualFunc(room.Next, x.Next, row) && slices.Equal(room.Next[:all+1][all], []int{-5}) &&
		slices.Equal(room.Live, x.Live) && room.Live[:len(x.Live)+1][len(x.Live)]
}

// scribble changes all lists of a table, and asks that none comes into another one.
func scribble(t *testing.T, x table.Table) {
	t.Helper()
	rows := append(slices.Clone(x.Next), x.Tag)
	kept := own(table.Table{Dfa: dfa.Dfa{Next: rows}}).Next
	_ = append(x.Next, nil, nil)
	_ = append(x.Live, true, true)
	for at, row := range rows {
		_ = append(row, -7, -7, -7)
		for k := range row {
			row[k], kept[at][k] = -8-at, -8-at
		}
		if !reflect.DeepEqual(rows, kept) {
			t.Fatal("lists share memory")
		}
	}
	for at := range x.Live {
		x.Live[at] = !x.Live[at]
	}
}

func TestMemory(t *testing.T) {
	c := newChance(9)
	for range 500 {
		d := c.dfa(8)
		want, e := ofModel(d)
		if e != api.OK {
			continue
		}
		room := roomy(table.Table{Dfa: d})
		for range 2 {
			got, e := table.Of(room.Dfa)
			if e != api.OK || !same(got, want) || !stays(room, table.Table{Dfa: d}) {
				t.Fatal("another answer the second time, or what was handed in was changed")
			}
			scribble(t, got)
		}
		room = roomy(want)
		for range 2 {
			far, longest, tag := table.Match(room, "aab", 2)
			far1, longest1, tag1 := matchModel(want, "aab", 2)
			l := table.Texts(room, 7)
			if !table.May(room) || far != far1 || longest != longest1 || tag != tag1 || !slices.Equal(l, textsModel(want, 7)) || !stays(room, want) {
				t.Fatal("another answer the second time, or what was handed in was changed")
			}
			clear(append(l, "x")[:len(l)])
		}
	}
}

func TestMakeKeepsOutOfWhatItIsHanded(t *testing.T) {
	texts := []string{"a(b|c){2,3}", "[a-c]+d", "()a"}
	spare := api.Re{Kind: 77}
	rules := append(parsed(t, texts...), spare)[:3]
	want, e := makeModel(parsed(t, texts...))
	for range 2 {
		got, e1 := table.Make(rules)
		if e != api.OK || e1 != api.OK || !same(got, want) {
			t.Fatal(shown(got), e1)
		}
		scribble(t, got)
		if !slices.EqualFunc(rules, parsed(t, texts...), rx.Same) || rules[:4][3].Kind != 77 {
			t.Fatal("what was handed in was changed")
		}
	}
	rules[0].Sub[0] = parsed(t, "x")[0]
	if got, _ := table.Make(rules); same(got, want) {
		t.Error("kept from the first time")
	}
}

// Lists that share memory in what is handed in are apart in the answer.
func TestRowsThatAreOne(t *testing.T) {
	row := []int{1, 2}
	d := dfa.Dfa{Classes: class.Part(octs.Of('a')), Next: [][]int{row, row, row}, Tag: []int{-1, 4, 5}}
	x := of(t, d)
	if !same(x, table.Table{Dfa: d, Live: []bool{true, true, true}}) || !table.May(x) {
		t.Error(shown(x))
	}
	scribble(t, x)
	if !slices.Equal(row, []int{1, 2}) {
		t.Error("changed")
	}
}

func TestMakeIsOfTheLayersBelow(t *testing.T) {
	rules := parsed(t, "ab|cb", "[a-c]d*")
	n, _ := nfa.Build(rules)
	d, _ := dfa.Subset(n)
	x, e := table.Make(rules)
	y, e1 := table.Of(d)
	if e != api.OK || e1 != api.OK || !same(x, y) || !dfa.Same(x.Dfa, mini.Min(d)) {
		t.Error(shown(x), e, shown(y), e1)
	}
}
