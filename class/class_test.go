package class_test

import (
	"math"
	"slices"
	"testing"

	"hackle/api"
	"hackle/class"
	"hackle/octs"
)

// has reads a bit as chapter 1 places it, so that the tests hang on no other package's calls.
func has(s api.Set, b int) bool {
	return s[b/64]>>(b%64)&1 == 1
}

// answers is the row of what each set says of a byte.
func answers(sets []api.Set, b int) string {
	row := make([]byte, len(sets))
	for i, s := range sets {
		if has(s, b) {
			row[i] = 1
		}
	}
	return string(row)
}

// plain is the partition of sets, by the chapter's words: each byte has the class of the least byte that is answered alike.
func plain(sets []api.Set) class.Classes {
	var c class.Classes
	var rows []string
	for b := range 256 {
		r := answers(sets, b)
		k := slices.Index(rows, r)
		if k < 0 {
			k = len(rows)
			rows = append(rows, r)
		}
		c.Of[b] = uint8(k)
	}
	c.N = len(rows)
	return c
}

// bitSets are sets by which all bytes are told apart: one a bit.
func bitSets() []api.Set {
	var sets []api.Set
	for bit := range 8 {
		var s api.Set
		for b := range 256 {
			if b>>bit&1 == 1 {
				s = octs.Any(s, octs.Of(byte(b)))
			}
		}
		sets = append(sets, s)
	}
	return sets
}

// singles are n sets of one byte each, from the byte first on.
func singles(first, n int) []api.Set {
	var sets []api.Set
	for b := range n {
		sets = append(sets, octs.Of(byte(first+b)))
	}
	return sets
}

// chance is a row of numbers that is the same in each run.
type chance uint32

func (c *chance) below(n int) int {
	*c = *c*1664525 + 1013904223
	return int(*c>>8) % n
}

func (c *chance) set() api.Set {
	switch c.below(3) {
	case 0:
		return octs.Range(byte(c.below(256)), byte(c.below(256)))
	case 1:
		return octs.Of(byte(c.below(256)), byte(c.below(256)))
	}
	var s api.Set
	for i := range s {
		for range 64 {
			s[i] = s[i]<<1 | uint64(c.below(2))
		}
	}
	return s
}

// samples are rows of sets of many lengths, those about a word's 64 bits among them.
func samples() [][]api.Set {
	all, none := octs.Range(0, 255), api.Set{}
	l := [][]api.Set{
		nil,
		{},
		{none},
		{all},
		{none, all, none},
		{octs.Of(0)},
		{octs.Of(255)},
		{octs.Of(0), octs.Of(255)},
		{octs.Range('a', 'c'), octs.Of('b')},
		{octs.Of('b'), octs.Range('a', 'c')},
		{octs.Of('b'), octs.Of('b'), octs.Not(octs.Of('b'))},
		{octs.Range(0, 127), octs.Range(64, 191)},
		bitSets(),
		singles(0, 63),
		singles(0, 64),
		singles(0, 65),
		singles(10, 128),
		singles(10, 129),
		singles(0, 255),
		singles(1, 255),
		singles(0, 256),
		append(singles(0, 256), bitSets()...),
		append(slices.Repeat([]api.Set{octs.Of(7)}, 200), octs.Of(9), octs.Range(5, 9)),
	}
	for _, n := range []int{62, 63, 64, 65, 127, 128, 129, 300} { // the last one alone tells something
		l = append(l, append(slices.Repeat([]api.Set{{}}, n), octs.Range('x', 'z')))
	}
	luck := chance(1)
	for n := range 60 {
		var sets []api.Set
		for range n % 12 {
			sets = append(sets, luck.set())
		}
		l = append(l, sets)
	}
	return l
}

// without is c with the class b made one with the class a, which is less: numbered anew.
func without(c class.Classes, a, b uint8) class.Classes {
	for i, k := range c.Of {
		if k == b {
			c.Of[i] = a
		} else if k > b {
			c.Of[i]--
		}
	}
	c.N--
	return c
}

// spoilt are partitions that may not be.
func spoilt() map[string]class.Classes {
	ab := class.Part(octs.Of('a'), octs.Of('b')) // N 3
	each := class.Part(bitSets()...)
	l := map[string]class.Classes{"zero value": {}}
	with := func(name string, c class.Classes, n int, of map[int]uint8) {
		c.N = n
		for b, k := range of {
			c.Of[b] = k
		}
		l[name] = c
	}
	with("one too few", ab, 2, nil)
	with("one too many", ab, 4, nil)
	with("none of one class", class.Part(), 0, nil)
	with("two of one class", class.Part(), 2, nil)
	with("below 0", ab, -1, nil)
	with("least number", ab, math.MinInt, nil)
	with("greatest number", ab, math.MaxInt, nil)
	with("3 and 256", ab, 3+256, nil)
	with("3 and 2 to the 32", ab, 3+1<<32, nil)
	with("the first isn't 0", ab, 3, map[int]uint8{0: 1})
	with("the first is above N", ab, 3, map[int]uint8{0: 7})
	with("two classes the other way round", ab, 3, map[int]uint8{'a': 2, 'b': 1})
	with("a class left out", ab, 4, map[int]uint8{'b': 3})
	with("a class left out, N as the count", ab, 3, map[int]uint8{'b': 3})
	with("a class that isn't below N", ab, 3, map[int]uint8{255: 3})
	with("the class 255 too early", ab, 3, map[int]uint8{255: 255})
	with("all 1", class.Part(), 1, func() map[int]uint8 {
		m := map[int]uint8{}
		for b := range 256 {
			m[b] = 1
		}
		return m
	}())
	with("256 less one", each, 255, nil)
	with("256 and one", each, 257, nil)
	with("256 as 0", each, 0, nil)
	with("two bytes of 256 the other way round", each, 256, map[int]uint8{254: 255, 255: 254})
	with("255 of 256 as 256", each, 256, map[int]uint8{255: 254})
	return l
}

// P2.1

func TestPartExample(t *testing.T) {
	c := class.Part(octs.Range('a', 'c'), octs.Of('b'))
	want := class.Classes{N: 3}
	want.Of['a'], want.Of['b'], want.Of['c'] = 1, 2, 1
	if c != want {
		t.Error(c)
	}
}

func TestPart(t *testing.T) {
	for i, sets := range samples() {
		if c, want := class.Part(sets...), plain(sets); c != want {
			t.Errorf("sample %d: %v, want %v", i, c, want)
		}
	}
}

func TestPartEdges(t *testing.T) {
	one := class.Classes{N: 1}
	if class.Part() != one || class.Part(api.Set{}) != one || class.Part(octs.Range(0, 255)) != one {
		t.Error("one class")
	}
	each := class.Part(bitSets()...)
	for b, k := range each.Of {
		if int(k) != b {
			t.Errorf("all told apart: %d has %d", b, k)
		}
	}
	if each.N != 256 || each.Of[255] != 255 {
		t.Error("all told apart:", each.N)
	}
	first := class.Part(octs.Of(0))
	if first.N != 2 || first.Of[0] != 0 || first.Of[1] != 1 || first.Of[255] != 1 {
		t.Error("numbered by the least byte, whether a set has it or not:", first)
	}
	if class.Part(octs.Not(octs.Of(0))) != first {
		t.Error("a set parts as what it hasn't does")
	}
}

func TestPartHangsOnSetsAlone(t *testing.T) {
	for i, sets := range samples() {
		c := class.Part(sets...)
		back := slices.Clone(sets)
		slices.Reverse(back)
		if class.Part(back...) != c || class.Part(append(back, sets...)...) != c || class.Part(sets...) != c {
			t.Errorf("sample %d: the order of the sets, or a second one, counts", i)
		}
	}
}

func TestPartKeepsOutOfWhatItIsHanded(t *testing.T) {
	room := append(singles(0, 70), octs.Of(99), octs.Of(98))
	was := slices.Clone(room)
	c := class.Part(room[:70]...)
	if !slices.Equal(room, was) {
		t.Error("changed")
	}
	room[0] = octs.Of(200)
	if c != plain(was[:70]) || c.Of[99] != c.Of[98] {
		t.Error("kept, or looked at behind its end")
	}
}

func TestMay(t *testing.T) {
	for i, sets := range samples() {
		if !class.May(class.Part(sets...)) {
			t.Errorf("sample %d may be", i)
		}
	}
	for name, c := range spoilt() {
		if class.May(c) {
			t.Errorf("%s: may not be", name)
		}
	}
	back := class.Classes{N: 2}
	back.Of[1] = 1 // behind it the class 0 comes again
	if !class.May(back) {
		t.Error("a lesser class may come again")
	}
}

// P2.2

func TestMembers(t *testing.T) {
	for i, sets := range samples() {
		c := class.Part(sets...)
		for k := -2; k < 260; k++ {
			var want api.Set
			for b, of := range c.Of {
				if int(of) == k {
					want[b/64] |= 1 << (b % 64)
				}
			}
			if s := class.Members(c, k); s != want {
				t.Errorf("sample %d: Members(%d): %v, want %v", i, k, s, want)
			}
		}
	}
}

func TestMembersByHand(t *testing.T) {
	c := class.Part(octs.Range('a', 'c'), octs.Of('b'))
	if class.Members(c, 0) != octs.Not(octs.Range('a', 'c')) || class.Members(c, 1) != octs.Of('a', 'c') || class.Members(c, 2) != octs.Of('b') {
		t.Error("members")
	}
	if class.Members(class.Part(), 0) != octs.Range(0, 255) || class.Members(class.Part(bitSets()...), 255) != octs.Of(255) {
		t.Error("of one class, and of the class 255")
	}
}

func TestFirst(t *testing.T) {
	c := class.Part(octs.Range('a', 'c'), octs.Of('b'))
	for k, want := range []int{0, 'a', 'b', -1, -1} {
		if b := class.First(c, k); b != want {
			t.Errorf("First(%d): %d, want %d", k, b, want)
		}
	}
	for i, sets := range samples() {
		c := class.Part(sets...)
		for k := -2; k < 260; k++ {
			want := -1
			if k >= 0 && k < c.N {
				want = slices.Index(c.Of[:], uint8(k))
			}
			if b := class.First(c, k); b != want {
				t.Errorf("sample %d: First(%d): %d, want %d", i, k, b, want)
			}
		}
	}
}

func TestNoSuchClass(t *testing.T) {
	for _, c := range []class.Classes{class.Part(), class.Part(octs.Of('b')), class.Part(bitSets()...)} {
		for _, k := range []int{-1, -256, -255, math.MinInt, math.MinInt + 1, c.N, 256, 257, 512, 1 << 32, 1<<32 + 1, math.MaxInt} {
			if class.Members(c, k) != (api.Set{}) || class.First(c, k) != -1 {
				t.Errorf("N %d: there is no class %d", c.N, k)
			}
		}
	}
}

func TestOfWhatMayNotBe(t *testing.T) {
	for name, c := range spoilt() {
		for _, k := range []int{-1, 0, 1, 2, 3, 254, 255, 256, math.MinInt, math.MaxInt} {
			if class.Members(c, k) != (api.Set{}) || class.First(c, k) != -1 {
				t.Errorf("%s: it has a class %d", name, k)
			}
		}
		for _, s := range []api.Set{{}, octs.Range(0, 255), octs.Of('a'), octs.Of(255)} {
			if class.Whole(c, s) {
				t.Errorf("%s: %v is whole", name, s)
			}
		}
	}
}

func TestWhole(t *testing.T) {
	luck := chance(2)
	asked := []api.Set{{}, octs.Range(0, 255), octs.Of(0), octs.Of(255), octs.Of('b'), octs.Not(octs.Of('b')), octs.Range('a', 'c'), octs.Range(0, 'b')}
	for range 10 {
		asked = append(asked, luck.set())
	}
	for i, sets := range samples() {
		c := class.Part(sets...)
		for _, s := range asked {
			want := true
			for b := range 256 {
				want = want && has(s, b) == has(s, slices.Index(c.Of[:], c.Of[b]))
			}
			if class.Whole(c, s) != want {
				t.Errorf("sample %d: Whole(%v): %v", i, s, !want)
			}
		}
	}
}

func TestWholeByHand(t *testing.T) {
	c := class.Part(octs.Range('a', 'c'), octs.Of('b'))
	for _, s := range []api.Set{{}, octs.Range(0, 255), octs.Of('b'), octs.Of('a', 'c'), octs.Range('a', 'c'), octs.Not(octs.Of('b')), octs.Not(octs.Of('a', 'c'))} {
		if !class.Whole(c, s) {
			t.Errorf("%v is whole", s)
		}
	}
	for _, s := range []api.Set{octs.Of('a'), octs.Of('c'), octs.Of('a', 'b'), octs.Of(0), octs.Of(255), octs.Not(octs.Of('c')), octs.Not(octs.Of(255))} {
		if class.Whole(c, s) {
			t.Errorf("%v isn't whole", s)
		}
	}
}

// P2.3

func TestSetsAreWhole(t *testing.T) {
	for i, sets := range samples() {
		c := class.Part(sets...)
		for j, s := range sets {
			if !class.Whole(c, s) || !class.Whole(c, octs.Not(s)) {
				t.Errorf("sample %d: set %d isn't whole", i, j)
			}
		}
	}
}

// Fewer classes must put two bytes into one that are in two now: so it is enough that no two classes of a partition of sets can be made one.
func TestNoFewerClasses(t *testing.T) {
	for i, sets := range samples() {
		c := class.Part(sets...)
		if c.N > 20 {
			continue
		}
		for b := 1; b < c.N; b++ {
			for a := range b {
				less := without(c, uint8(a), uint8(b))
				if !class.May(less) {
					t.Fatalf("sample %d: %d and %d as one may not be", i, a, b)
				}
				if !slices.ContainsFunc(sets, func(s api.Set) bool { return !class.Whole(less, s) }) {
					t.Errorf("sample %d: %d and %d can be one", i, a, b)
				}
			}
		}
	}
}
