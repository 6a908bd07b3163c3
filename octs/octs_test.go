package octs_test

import (
	"bytes"
	"math"
	"slices"
	"testing"

	"hackle/api"
	"hackle/octs"
)

// edges are bytes at both ends of each word, and some within.
var edges = []byte{0, 1, 5, 62, 63, 64, 65, 97, 126, 127, 128, 129, 190, 191, 192, 193, 254, 255}

// plain says of each byte whether it is in: what a set is held against.
type plain [256]bool

func plainOf(in func(b int) bool) plain {
	var p plain
	for b := range p {
		p[b] = in(b)
	}
	return p
}

// set has the bits as the chapter's section Words places them.
func (p plain) set() api.Set {
	var s api.Set
	for b, in := range p {
		if in {
			s[b/64] |= 1 << (b % 64)
		}
	}
	return s
}

func (p plain) next(from int) int {
	for b, in := range p {
		if in && b >= from {
			return b
		}
	}
	return -1
}

func (p plain) bytes() []byte {
	var l []byte
	for b, in := range p {
		if in {
			l = append(l, byte(b))
		}
	}
	return l
}

// samples are sets of many shapes: empty, full, one byte, runs, rows, and some without a rule to them.
func samples() []plain {
	l := []plain{
		plainOf(func(int) bool { return false }),
		plainOf(func(int) bool { return true }),
		plainOf(func(b int) bool { return b%2 == 0 }),
		plainOf(func(b int) bool { return b/64%2 == 1 }),
		plainOf(func(b int) bool { return b >= 60 && b < 200 }),
		plainOf(func(b int) bool { return b*b%257%3 == 1 }),
	}
	for _, e := range edges {
		l = append(l, plainOf(func(b int) bool { return b == int(e) }))
		l = append(l, plainOf(func(b int) bool { return b != int(e) }))
	}
	seed := uint32(1)
	for range 20 {
		l = append(l, plainOf(func(int) bool {
			seed = seed*1664525 + 1013904223
			return seed>>31 == 1
		}))
	}
	return l
}

// P1.1

func TestOfPlacesBits(t *testing.T) {
	for _, x := range []struct {
		bs   []byte
		want api.Set
	}{
		{nil, api.Set{}},
		{[]byte{}, api.Set{}},
		{[]byte{0}, api.Set{1}},
		{[]byte{63}, api.Set{1 << 63}},
		{[]byte{64}, api.Set{0, 1}},
		{[]byte{127, 128}, api.Set{0, 1 << 63, 1}},
		{[]byte{255}, api.Set{0, 0, 0, 1 << 63}},
		{[]byte{191, 192}, api.Set{0, 0, 1 << 63, 1}},
		{[]byte{9, 5, 9, 5, 9}, api.Set{1<<5 | 1<<9}},
	} {
		if s := octs.Of(x.bs...); s != x.want {
			t.Errorf("Of(%v): %v, want %v", x.bs, s, x.want)
		}
	}
	for b := range 256 {
		one := plainOf(func(c int) bool { return c == b })
		if s := octs.Of(byte(b)); s != one.set() {
			t.Errorf("Of(%d): %v", b, s)
		}
	}
	for _, p := range samples() {
		if s := octs.Of(p.bytes()...); s != p.set() {
			t.Errorf("Of(%v): %v", p.bytes(), s)
		}
	}
}

func TestOfKeepsWhatItIsHanded(t *testing.T) {
	room := []byte{3, 1, 2, 77, 78}
	s := octs.Of(room[:3]...)
	if !bytes.Equal(room, []byte{3, 1, 2, 77, 78}) {
		t.Error("changed:", room)
	}
	room[0] = 200
	if s != octs.Of(1, 2, 3) {
		t.Error("kept:", s)
	}
}

func TestRange(t *testing.T) {
	for lo := range 256 {
		for hi := range 256 {
			want := plainOf(func(b int) bool { return b >= lo && b <= hi }).set()
			if s := octs.Range(byte(lo), byte(hi)); s != want {
				t.Fatalf("Range(%d, %d): %v, want %v", lo, hi, s, want)
			}
		}
	}
}

func TestRangeEdges(t *testing.T) {
	if octs.Range(5, 4) != (api.Set{}) || octs.Range(255, 0) != (api.Set{}) {
		t.Error("hi is less")
	}
	if octs.Range(7, 7) != octs.Of(7) || octs.Range(255, 255) != octs.Of(255) || octs.Range(0, 0) != octs.Of(0) {
		t.Error("one byte")
	}
	if all := ^uint64(0); octs.Range(0, 255) != (api.Set{all, all, all, all}) || octs.Range(64, 127) != (api.Set{0, all}) {
		t.Error("whole words")
	}
	if octs.Range(63, 64) != (api.Set{1 << 63, 1}) {
		t.Error("across two words")
	}
}

func TestHas(t *testing.T) {
	for _, p := range samples() {
		s := p.set()
		for b, in := range p {
			if octs.Has(s, byte(b)) != in {
				t.Errorf("Has(%v, %d): %v", s, b, !in)
			}
		}
	}
}

// P1.2

func TestAnyBothLess(t *testing.T) {
	l := samples()
	for _, p := range l {
		for _, q := range l {
			a, b := p.set(), q.set()
			if s := octs.Any(a, b); s != plainOf(func(c int) bool { return p[c] || q[c] }).set() {
				t.Fatalf("Any(%v, %v): %v", a, b, s)
			}
			if s := octs.Both(a, b); s != plainOf(func(c int) bool { return p[c] && q[c] }).set() {
				t.Fatalf("Both(%v, %v): %v", a, b, s)
			}
			if s := octs.Less(a, b); s != plainOf(func(c int) bool { return p[c] && !q[c] }).set() {
				t.Fatalf("Less(%v, %v): %v", a, b, s)
			}
			if a != p.set() || b != q.set() {
				t.Fatal("an argument is changed")
			}
		}
	}
}

func TestNot(t *testing.T) {
	for _, p := range samples() {
		a := p.set()
		if s := octs.Not(a); s != plainOf(func(c int) bool { return !p[c] }).set() {
			t.Errorf("Not(%v): %v", a, s)
		}
		if a != p.set() {
			t.Error("the argument is changed")
		}
	}
}

func TestTwoSetsByHand(t *testing.T) {
	a, b := octs.Of(0, 63, 64, 200), octs.Of(63, 200, 255)
	if octs.Any(a, b) != octs.Of(0, 63, 64, 200, 255) || octs.Both(a, b) != octs.Of(63, 200) {
		t.Error("Any, Both")
	}
	if octs.Less(a, b) != octs.Of(0, 64) || octs.Less(b, a) != octs.Of(255) {
		t.Error("Less")
	}
	if octs.Not(octs.Range(1, 254)) != octs.Of(0, 255) || octs.Not(api.Set{}) != octs.Range(0, 255) {
		t.Error("Not")
	}
}

// P1.3

func TestCount(t *testing.T) {
	if n := octs.Count(octs.Range(97, 122)); n != 26 {
		t.Error("the chapter's example:", n)
	}
	if octs.Count(api.Set{}) != 0 || octs.Count(octs.Range(0, 255)) != 256 || octs.Count(octs.Of(0, 64, 128, 192, 255)) != 5 {
		t.Error("edges")
	}
	for _, p := range samples() {
		if n := octs.Count(p.set()); n != len(p.bytes()) {
			t.Errorf("Count(%v): %d", p.set(), n)
		}
	}
}

func TestNext(t *testing.T) {
	for _, p := range samples() {
		s := p.set()
		for from := -3; from < 260; from++ {
			if n := octs.Next(s, from); n != p.next(from) {
				t.Errorf("Next(%v, %d): %d, want %d", s, from, n, p.next(from))
			}
		}
	}
}

func TestNextEdges(t *testing.T) {
	for _, x := range []struct {
		s          api.Set
		from, want int
	}{
		{octs.Of(5, 9), 6, 9},
		{octs.Of(5, 9), 5, 5},
		{octs.Of(5, 9), 10, -1},
		{octs.Of(5, 9), -1, 5},
		{octs.Of(5, 9), math.MinInt, 5},
		{octs.Of(64), math.MinInt, 64},
		{octs.Of(255), math.MinInt, 255},
		{octs.Of(255), math.MinInt + 191, 255},
		{octs.Of(5, 9), math.MaxInt, -1},
		{octs.Of(0), math.MinInt, 0},
		{octs.Of(0), 0, 0},
		{octs.Of(0), 1, -1},
		{octs.Of(255), 255, 255},
		{octs.Of(255), 256, -1},
		{octs.Of(63, 64), 64, 64},
		{octs.Of(3, 67), 64, 67},
		{octs.Range(0, 255), 1 << 32, -1},
		{octs.Range(0, 255), 256, -1},
		{api.Set{}, 0, -1},
		{api.Set{}, -1, -1},
	} {
		if n := octs.Next(x.s, x.from); n != x.want {
			t.Errorf("Next(%v, %d): %d, want %d", x.s, x.from, n, x.want)
		}
	}
}

func TestBytes(t *testing.T) {
	if l := octs.Bytes(octs.Less(octs.Range(1, 4), octs.Of(2))); !bytes.Equal(l, []byte{1, 3, 4}) {
		t.Error("the chapter's example:", l)
	}
	if l := octs.Bytes(api.Set{}); len(l) != 0 {
		t.Error("none:", l)
	}
	if l := octs.Bytes(octs.Of(255, 64, 0, 63, 64)); !bytes.Equal(l, []byte{0, 63, 64, 255}) {
		t.Error("rising:", l)
	}
	for _, p := range samples() {
		if l := octs.Bytes(p.set()); !bytes.Equal(l, p.bytes()) || !slices.IsSorted(l) {
			t.Errorf("Bytes(%v): %v", p.set(), l)
		}
	}
}

func TestBytesIsNewMemory(t *testing.T) {
	s := octs.Of(1, 64, 255)
	one, two := octs.Bytes(s), octs.Bytes(s)
	one[0] = 99
	_ = append(one[:1], 98, 97)
	if !bytes.Equal(two, []byte{1, 64, 255}) || s != octs.Of(1, 64, 255) || !bytes.Equal(octs.Bytes(s), two) {
		t.Error("shared:", two, s)
	}
}
