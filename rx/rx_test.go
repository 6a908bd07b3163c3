package rx_test

import (
	"math"
	"math/rand"
	"reflect"
	"runtime/debug"
	"slices"
	"testing"

	"hackle/api"
	"hackle/octs"
	"hackle/rx"
)

// The trees of these tests are literals, so that nothing hangs on the calls that make trees.

func one(bs ...byte) api.Re  { return api.Re{Kind: api.ReByte, Set: octs.Of(bs...)} }
func cat(l ...api.Re) api.Re { return api.Re{Kind: api.ReCat, Sub: l} }
func alt(l ...api.Re) api.Re { return api.Re{Kind: api.ReAlt, Sub: l} }
func void() api.Re           { return api.Re{Kind: api.ReByte} }
func rep(re api.Re, lo, hi int) api.Re {
	return api.Re{Kind: api.ReRep, Sub: []api.Re{re}, Min: lo, Max: hi}
}

// example is ab[0-9]*, as the chapter has it.
func example() api.Re {
	return cat(cat(one('a'), one('b')), rep(api.Re{Kind: api.ReByte, Set: octs.Range('0', '9')}, 0, -1))
}

// chain is a tree of so many nodes, each within the one ahead.
func chain(deep int) api.Re {
	re := one('a')
	for range deep - 1 {
		re = rep(re, 0, 1)
	}
	return re
}

// wide is a tree of so many nodes, all but one side by side.
func wide(nodes int) api.Re {
	return cat(slices.Repeat([]api.Re{one('a')}, nodes-1)...)
}

// doubled is a tree of 2 to the power n leaves that takes little memory, as its Subs are one list.
func doubled(n int) api.Re {
	re := one('a')
	for range n {
		re = cat(re, re)
	}
	return re
}

// ring is no tree: it has itself as a Sub.
func ring(kind int) api.Re {
	l := make([]api.Re, 2)
	l[0], l[1] = api.Re{Kind: kind, Sub: l}, api.Re{Kind: kind, Sub: l}
	return l[0]
}

func randomSet(source *rand.Rand) api.Set {
	var s api.Set
	for range source.Intn(4) {
		s = octs.Any(s, octs.Of([]byte{0, 'a', 'b', 63, 64, 127, 128, 255}[source.Intn(8)]))
	}
	return s
}

// good is a random tree that may be.
func good(source *rand.Rand, deep int) api.Re {
	kind := source.Intn(5)
	if deep == 1 {
		kind = source.Intn(2)
	}
	re := api.Re{Kind: kind}
	switch kind {
	case api.ReByte:
		re.Set = randomSet(source)
	case api.ReCat, api.ReAlt:
		for range 2 + source.Intn(2) {
			re.Sub = append(re.Sub, good(source, deep-1))
		}
	case api.ReRep:
		re.Sub = []api.Re{good(source, deep-1)}
		re.Min = source.Intn(3)
		re.Max = re.Min + source.Intn(3) - 1
		if re.Max < re.Min {
			re.Max = -1
		}
	}
	return re
}

// anyTree is a random tree of whatever fields.
func anyTree(source *rand.Rand, deep int) api.Re {
	re := api.Re{Kind: source.Intn(7) - 1, Min: source.Intn(3) - 1, Max: source.Intn(3) - 1, Set: randomSet(source)}
	if deep > 1 {
		for range source.Intn(4) {
			re.Sub = append(re.Sub, anyTree(source, deep-1))
		}
	}
	return re
}

func trees(make func(*rand.Rand, int) api.Re, n int) []api.Re {
	source := rand.New(rand.NewSource(4))
	var l []api.Re
	for range n {
		l = append(l, make(source, 1+source.Intn(5)))
	}
	return l
}

// parts is the nodes of a tree by their places in it, from the left.
func parts(re *api.Re) []*api.Re {
	l := []*api.Re{re}
	for i := range re.Sub {
		l = append(l, parts(&re.Sub[i])...)
	}
	return l
}

func deepOf(re api.Re) int {
	most := 0
	for _, sub := range re.Sub {
		most = max(most, deepOf(sub))
	}
	return most + 1
}

// copied is a tree in memory of its own, by the tests' own means.
func copied(re api.Re) api.Re {
	var sub []api.Re
	for _, s := range re.Sub {
		sub = append(sub, copied(s))
	}
	re.Sub = sub
	return re
}

// tellsNothing holds the answers of P4.3 against those of a tree that may not be.
func tellsNothing(t *testing.T, name string, re api.Re) {
	t.Helper()
	if rx.Void(re) || rx.Empty(re) || rx.First(re) != (api.Set{}) || rx.Last(re) != (api.Set{}) || len(rx.Sets(re)) != 0 {
		t.Errorf("%s: something is told of a tree that may not be", name)
	}
}

// P4.1

type asked struct {
	name string
	re   api.Re
}

func mayBe() []asked {
	return []asked{
		{"empty", api.Re{}},
		{"empty, with an empty list", api.Re{Sub: []api.Re{}}},
		{"byte", one('a')},
		{"byte of no byte", void()},
		{"byte, with an empty list", api.Re{Kind: api.ReByte, Sub: []api.Re{}}},
		{"byte of all bytes", api.Re{Kind: api.ReByte, Set: octs.Range(0, 255)}},
		{"cat of two", cat(api.Re{}, api.Re{})},
		{"cat of three", cat(one('a'), void(), api.Re{})},
		{"cat of cat", cat(cat(one('a'), one('a')), one('a'))},
		{"alt of two", alt(api.Re{}, api.Re{})},
		{"alt of alike ones", alt(one('a'), one('a'), one('a'))},
		{"rep of none", rep(one('a'), 0, 0)},
		{"rep", rep(one('a'), 0, -1)},
		{"rep 64 -1", rep(one('a'), 64, -1)},
		{"rep 64 64", rep(one('a'), 64, 64)},
		{"rep 0 64", rep(one('a'), 0, 64)},
		{"rep of rep", rep(rep(api.Re{}, 0, -1), 0, -1)},
		{"the chapter's", example()},
		{"30 deep", chain(30)},
		{"300 nodes", wide(300)},
	}
}

func mayNotBe() []asked {
	l := []asked{
		{"kind 5", api.Re{Kind: 5}},
		{"kind -1", api.Re{Kind: -1}},
		{"the least kind", api.Re{Kind: math.MinInt}},
		{"the greatest kind", api.Re{Kind: math.MaxInt}},
		{"kind 256 and 1", api.Re{Kind: 257, Set: octs.Of('a')}},

		{"empty with a set", api.Re{Set: octs.Of(255)}},
		{"empty with a sub", api.Re{Sub: []api.Re{{}}}},
		{"empty with a min", api.Re{Min: 1}},
		{"empty with a max", api.Re{Max: -1}},
		{"byte with a sub", api.Re{Kind: api.ReByte, Sub: []api.Re{{}}}},
		{"byte with a min", api.Re{Kind: api.ReByte, Min: -1}},
		{"byte with a max", api.Re{Kind: api.ReByte, Max: 1}},

		{"rep of no sub", api.Re{Kind: api.ReRep}},
		{"rep of two", api.Re{Kind: api.ReRep, Sub: []api.Re{{}, {}}}},
		{"rep with a set", api.Re{Kind: api.ReRep, Sub: []api.Re{{}}, Set: octs.Of(0)}},
		{"rep 3 2", rep(one('a'), 3, 2)},
		{"rep 1 0", rep(one('a'), 1, 0)},
		{"rep -1 -1", rep(one('a'), -1, -1)},
		{"rep -1 3", rep(one('a'), -1, 3)},
		{"rep 0 -2", rep(one('a'), 0, -2)},
		{"rep 0 65", rep(one('a'), 0, 65)},
		{"rep 65 -1", rep(one('a'), 65, -1)},
		{"rep 65 65", rep(one('a'), 65, 65)},
		{"rep of the ends", rep(one('a'), math.MinInt, math.MaxInt)},

		{"31 deep", chain(31)},
		{"301 nodes", wide(301)},
		{"301 nodes, not wide", cat(wide(150), wide(150))},
		{"very many nodes", doubled(62)},
		{"rep within itself", ring(api.ReRep)},
		{"cat within itself", ring(api.ReCat)},
		{"alt within itself", ring(api.ReAlt)},
	}
	for _, kind := range []int{api.ReCat, api.ReAlt} {
		name := []string{api.ReCat: "cat", api.ReAlt: "alt"}[kind]
		two := []api.Re{{}, {}}
		l = append(l,
			asked{name + " of none", api.Re{Kind: kind}},
			asked{name + " of one", api.Re{Kind: kind, Sub: two[:1]}},
			asked{name + " with a set", api.Re{Kind: kind, Sub: two, Set: octs.Of(64)}},
			asked{name + " with a min", api.Re{Kind: kind, Sub: two, Min: 1}},
			asked{name + " with a max", api.Re{Kind: kind, Sub: two, Max: 1}},
			asked{name + " with the max -1", api.Re{Kind: kind, Sub: two, Max: -1}},
		)
	}
	return l
}

func TestMay(t *testing.T) {
	for _, x := range mayBe() {
		if !rx.May(x.re) {
			t.Errorf("%s: may be", x.name)
		}
	}
	for _, x := range mayNotBe() {
		if rx.May(x.re) {
			t.Errorf("%s: may not be", x.name)
		}
	}
	for _, re := range trees(good, 300) {
		if want := len(parts(&re)) <= 300; rx.May(re) != want {
			t.Errorf("May(%v): %v", re, !want)
		}
	}
}

// 300 nodes and 30 deep are both reached, and both left, in one tree each.
func TestMayAtBothLimits(t *testing.T) {
	re := chain(28)
	both := cat(re, wide(270)) // 29 deep; 1 + 28 + 270 nodes
	if !rx.May(both) || rx.Nodes(both) != 299 || rx.Deep(both) != 29 {
		t.Error("within both:", rx.Nodes(both), rx.Deep(both))
	}
	if at := rep(both, 0, 1); !rx.May(at) || rx.Nodes(at) != 300 || rx.Deep(at) != 30 {
		t.Error("at both:", rx.Nodes(at), rx.Deep(at))
	}
	if above := rep(rep(both, 0, 1), 0, 1); rx.May(above) {
		t.Error("above both")
	}
}

// Whatever node may not be, the tree may not be.
func TestMayLooksAtEachNode(t *testing.T) {
	for _, re := range trees(good, 100) {
		for i := range parts(&re) {
			for _, wrong := range []func(*api.Re){
				func(n *api.Re) { n.Kind = 9 },
				func(n *api.Re) { n.Kind = -1 },
				func(n *api.Re) { n.Min = 65 },
				func(n *api.Re) { n.Max = -2 },
			} {
				bad := copied(re)
				wrong(parts(&bad)[i])
				if rx.May(bad) {
					t.Fatalf("node %d of %v", i, bad)
				}
				tellsNothing(t, "a wrong node", bad)
			}
		}
	}
}

func TestNodesAndDeep(t *testing.T) {
	if re := example(); rx.Nodes(re) != 6 || rx.Deep(re) != 3 {
		t.Error("the chapter's example:", rx.Nodes(re), rx.Deep(re))
	}
	if rx.Nodes(api.Re{}) != 1 || rx.Deep(api.Re{}) != 1 || rx.Nodes(api.Re{Kind: 9}) != 1 {
		t.Error("one node")
	}
	if re := wide(100000); rx.Nodes(re) != 100000 || rx.Deep(re) != 2 {
		t.Error("wide:", rx.Nodes(re), rx.Deep(re))
	}
	if re := doubled(15); rx.Nodes(re) != 1<<16-1 || rx.Deep(re) != 16 {
		t.Error("doubled:", rx.Nodes(re), rx.Deep(re))
	}
	// The deepest part stands first, last, within.
	for _, re := range []api.Re{cat(chain(5), one('a'), one('b')), cat(one('a'), chain(5)), alt(one('a'), chain(5), chain(2))} {
		if rx.Deep(re) != 6 {
			t.Error("deepest:", rx.Deep(re))
		}
	}
	for _, re := range append(trees(good, 300), trees(anyTree, 300)...) {
		if n := rx.Nodes(re); n != len(parts(&re)) {
			t.Errorf("Nodes(%v): %d", re, n)
		}
		if n := rx.Deep(re); n != deepOf(re) {
			t.Errorf("Deep(%v): %d", re, n)
		}
	}
}

// Calls as deep as the tree would not end here.
func TestVeryDeepTrees(t *testing.T) {
	defer debug.SetMaxStack(debug.SetMaxStack(1 << 20))
	const deep = 300000
	re := chain(deep)
	if rx.Nodes(re) != deep || rx.Deep(re) != deep || rx.May(re) {
		t.Error("counted:", rx.Nodes(re), rx.Deep(re))
	}
	if !rx.Same(re, chain(deep)) || rx.Same(re, chain(deep+1)) || rx.Same(chain(deep+1), re) {
		t.Error("same")
	}
	tellsNothing(t, "very deep", re)
	for _, made := range []api.Re{rx.Cat(re, re), rx.Alt(re, re), rx.Rep(re, 0, 1)} {
		if rx.Deep(made) != deep+1 {
			t.Error("made:", rx.Deep(made))
		}
	}
	if !rx.Same(rx.Cat(re), re) || !rx.Same(rx.Alt(re), re) {
		t.Error("of one")
	}
}

// sameBy is what Same must tell, from the types of Go.
func sameBy(a, b api.Re) bool {
	return reflect.DeepEqual(copied(a), copied(b))
}

func TestSame(t *testing.T) {
	few := append(trees(good, 60), trees(anyTree, 60)...)
	few = append(few, api.Re{}, one('a'), one('b'), cat(one('a'), one('b')), cat(one('b'), one('a')), alt(one('a'), one('b')))
	for _, a := range few {
		for _, b := range few {
			if rx.Same(a, b) != sameBy(a, b) {
				t.Fatalf("Same(%v, %v): %v", a, b, !sameBy(a, b))
			}
		}
		if !rx.Same(a, copied(a)) {
			t.Fatalf("Same(%v) of itself", a)
		}
	}
}

// A change of any field of any node is seen, on both sides.
func TestSameSeesEachField(t *testing.T) {
	changes := []func(*api.Re){
		func(n *api.Re) { n.Kind++ },
		func(n *api.Re) { n.Set[0] ^= 1 },
		func(n *api.Re) { n.Set[3] ^= 1 << 63 },
		func(n *api.Re) { n.Min++ },
		func(n *api.Re) { n.Max-- },
		func(n *api.Re) { n.Sub = append(n.Sub[:len(n.Sub):len(n.Sub)], api.Re{}) },
		func(n *api.Re) { n.Sub = append([]api.Re{{}}, n.Sub...) },
	}
	for _, a := range append(trees(good, 40), trees(anyTree, 40)...) {
		for i := range parts(&a) {
			for j, change := range changes {
				b := copied(a)
				change(parts(&b)[i])
				if rx.Same(a, b) || rx.Same(b, a) {
					t.Fatalf("node %d of %v, change %d", i, a, j)
				}
			}
		}
	}
}

func TestSameEdges(t *testing.T) {
	if !rx.Same(api.Re{Sub: []api.Re{}}, api.Re{}) || !rx.Same(api.Re{}, api.Re{Sub: make([]api.Re, 0, 3)}) {
		t.Error("nil and empty")
	}
	if rx.Same(cat(one('a'), one('b')), cat(one('b'), one('a'))) {
		t.Error("another order")
	}
	if rx.Same(cat(one('a'), cat(one('b'), one('c'))), cat(cat(one('a'), one('b')), one('c'))) {
		t.Error("another shape")
	}
	if rx.Same(api.Re{}, void()) || rx.Same(one('a'), alt(one('a'), one('a'))) {
		t.Error("the same texts aren't the same trees")
	}
	if !rx.Same(api.Re{Kind: 77, Min: -5}, api.Re{Kind: 77, Min: -5}) || rx.Same(api.Re{Kind: 77}, api.Re{Kind: 78}) {
		t.Error("of trees that may not be")
	}
	if rx.Same(ring(api.ReCat), example()) || rx.Same(example(), ring(api.ReCat)) || rx.Same(doubled(60), one('a')) {
		t.Error("of what has no end")
	}
}

// P4.2

func TestByte(t *testing.T) {
	for _, s := range []api.Set{{}, octs.Of('a'), octs.Of(0, 63, 64, 255), octs.Range(0, 255)} {
		if re := rx.Byte(s); !sameBy(re, api.Re{Kind: api.ReByte, Set: s}) {
			t.Errorf("Byte(%v): %v", s, re)
		}
	}
}

func TestText(t *testing.T) {
	if re := rx.Text(""); !sameBy(re, api.Re{}) {
		t.Error("of no byte:", re)
	}
	for b := range 256 {
		if re := rx.Text(string([]byte{byte(b)})); !sameBy(re, one(byte(b))) {
			t.Error("of one byte:", b, re)
		}
	}
	for _, s := range []string{"ab", "aa", "abc", "\x00\xff", "\u00e9", "\xc3\x28", "\u65e5\u672c", "a.b*(c)\\"} {
		var l []api.Re
		for _, b := range []byte(s) {
			l = append(l, one(b))
		}
		if re := rx.Text(s); !sameBy(re, cat(l...)) {
			t.Errorf("Text(%q): %v", s, re)
		}
	}
	long := rx.Text(string(make([]byte, 5000)))
	if long.Kind != api.ReCat || len(long.Sub) != 5000 || rx.May(long) {
		t.Error("a long text is made, and may not be")
	}
}

func TestCatAndAlt(t *testing.T) {
	if !sameBy(rx.Cat(), api.Re{}) || !sameBy(rx.Cat([]api.Re{}...), api.Re{}) {
		t.Error("Cat of none")
	}
	if !sameBy(rx.Alt(), void()) || !sameBy(rx.Alt([]api.Re{}...), void()) {
		t.Error("Alt of none")
	}
	all := append(trees(good, 40), trees(anyTree, 40)...)
	for i, a := range all {
		if !sameBy(rx.Cat(a), a) || !sameBy(rx.Alt(a), a) {
			t.Error("of one:", a)
		}
		b, c := all[(i+1)%len(all)], all[(i+2)%len(all)]
		if !sameBy(rx.Cat(a, b), cat(a, b)) || !sameBy(rx.Alt(a, b), alt(a, b)) {
			t.Error("of two:", a, b)
		}
		if !sameBy(rx.Cat(a, b, c), cat(a, b, c)) || !sameBy(rx.Alt(a, b, c), alt(a, b, c)) {
			t.Error("of three:", a, b, c)
		}
	}
	// What is within is let be as it stands.
	if re := rx.Cat(rx.Cat(one('a'), one('b')), api.Re{}, rx.Alt(one('c'), one('c'))); !sameBy(re, cat(cat(one('a'), one('b')), api.Re{}, alt(one('c'), one('c')))) {
		t.Error("within:", re)
	}
}

func TestRep(t *testing.T) {
	for _, re := range append(trees(good, 20), trees(anyTree, 20)...) {
		for _, x := range [][2]int{{0, -1}, {0, 0}, {1, 1}, {0, 1}, {2, 64}, {3, 2}, {-1, 5}, {65, 66}, {0, -2}, {math.MinInt, math.MaxInt}} {
			if got := rx.Rep(re, x[0], x[1]); !sameBy(got, rep(re, x[0], x[1])) {
				t.Errorf("Rep(%v, %d, %d): %v", re, x[0], x[1], got)
			}
		}
	}
}

// What is made of trees that may not be may not be either.
func TestMadeOfWrongOnes(t *testing.T) {
	for _, re := range []api.Re{{Kind: 5}, {Min: 1}, rep(one('a'), 3, 2), chain(31)} {
		for _, made := range []api.Re{rx.Cat(re), rx.Alt(re), rx.Cat(re, one('a')), rx.Alt(one('a'), re), rx.Rep(re, 0, 1)} {
			if rx.May(made) {
				t.Error("may be:", made)
			}
		}
	}
	if rx.May(rx.Rep(one('a'), 3, 2)) || rx.May(rx.Rep(one('a'), 0, 65)) || !rx.May(rx.Rep(one('a'), 0, 64)) {
		t.Error("how often")
	}
}

func TestMadeTreesAreNewMemory(t *testing.T) {
	for _, make := range []func(l ...api.Re) api.Re{
		rx.Cat, rx.Alt,
		func(l ...api.Re) api.Re { return rx.Cat(l[0]) },
		func(l ...api.Re) api.Re { return rx.Alt(l[0]) },
		func(l ...api.Re) api.Re { return rx.Rep(l[0], 1, 2) },
		func(l ...api.Re) api.Re { return rx.Cat(l[0], l[0]) },
	} {
		room := make3()
		before := make3()
		made, again := make(room[:2]...), make(room[:2]...)
		want := copied(made)
		scribble(&again)
		if !reflect.DeepEqual(room, before) {
			t.Fatal("an answer shares memory with what was handed in")
		}
		if !sameBy(made, want) {
			t.Fatal("two answers share memory")
		}
		for i := range room {
			scribble(&room[i])
		}
		if !sameBy(made, want) {
			t.Fatal("what was handed in is kept")
		}
		for i := range parts(&made) {
			changed := copied(want)
			parts(&changed)[i].Min = 1000
			n := parts(&made)[i]
			old := n.Min
			n.Min = 1000
			_ = append(n.Sub, api.Re{Kind: 99})
			if !sameBy(made, changed) {
				t.Fatal("two lists of one answer share memory")
			}
			n.Min = old
		}
	}
}

// make3 is three trees, whose lists have spare room.
func make3() []api.Re {
	roomy := func(re api.Re) api.Re {
		for _, n := range parts(&re) {
			if len(n.Sub) > 0 {
				n.Sub = append(slices.Grow([]api.Re(nil), 7), n.Sub...)
			}
		}
		return re
	}
	return []api.Re{roomy(example()), roomy(alt(example(), rep(one('x'), 0, 1))), roomy(cat(one('y'), one('z')))}
}

// scribble changes all that a tree reaches, spare room and all.
func scribble(re *api.Re) {
	for i := range re.Sub {
		scribble(&re.Sub[i])
	}
	l := re.Sub[:cap(re.Sub)]
	for i := range l {
		l[i] = api.Re{Kind: 88}
	}
	re.Kind = 88
}

// P4.3

// ends is a text as far as P4.3 asks: of how many bytes, 0 or more, with which it begins and ends.
// The ends of a text and of one behind it tell those of both as one, so that all the ends of a tree's texts can be listed.
type ends struct {
	some        bool
	first, last byte
}

type language map[ends]bool

func (l language) then(m language) language {
	all := language{}
	for a := range l {
		for b := range m {
			switch {
			case !a.some:
				all[b] = true
			case !b.some:
				all[a] = true
			default:
				all[ends{true, a.first, b.last}] = true
			}
		}
	}
	return all
}

func (l language) add(m language) {
	for a := range m {
		l[a] = true
	}
}

// textsOf is the ends of the texts as the chapter's Words tell them.
func textsOf(re api.Re) language {
	all := language{}
	switch re.Kind {
	case api.ReEmpty:
		all[ends{}] = true
	case api.ReByte:
		for _, b := range octs.Bytes(re.Set) {
			all[ends{true, b, b}] = true
		}
	case api.ReCat:
		all[ends{}] = true
		for _, sub := range re.Sub {
			all = all.then(textsOf(sub))
		}
	case api.ReAlt:
		for _, sub := range re.Sub {
			all.add(textsOf(sub))
		}
	case api.ReRep:
		most := re.Max
		if most == -1 {
			most = re.Min + 5 // more copies have no other ends
		}
		row, sub := language{ends{}: true}, textsOf(re.Sub[0])
		for i := range most + 1 {
			if i >= re.Min {
				all.add(row)
			}
			row = row.then(sub)
		}
	}
	return all
}

func against(t *testing.T, re api.Re) {
	t.Helper()
	l := textsOf(re)
	var first, last api.Set
	for a := range l {
		if a.some {
			first, last = octs.Any(first, octs.Of(a.first)), octs.Any(last, octs.Of(a.last))
		}
	}
	if got := rx.Void(re); got != (len(l) == 0) {
		t.Errorf("Void(%v): %v", re, got)
	}
	if got := rx.Empty(re); got != l[ends{}] {
		t.Errorf("Empty(%v): %v", re, got)
	}
	if got := rx.First(re); got != first {
		t.Errorf("First(%v): %v, want %v", re, octs.Bytes(got), octs.Bytes(first))
	}
	if got := rx.Last(re); got != last {
		t.Errorf("Last(%v): %v, want %v", re, octs.Bytes(got), octs.Bytes(last))
	}
}

func TestTextsAgainstWords(t *testing.T) {
	for _, re := range trees(good, 3000) {
		if len(parts(&re)) <= api.MaxNodes {
			against(t, re)
		}
	}
	for _, x := range mayBe() {
		if rx.Nodes(x.re) < 50 {
			against(t, x.re)
		}
	}
}

func TestTextsByHand(t *testing.T) {
	a, b, c, none := one('a'), one('b'), one('c'), void()
	maybe := func(re api.Re) api.Re { return rep(re, 0, 1) }
	for _, x := range []struct {
		name        string
		re          api.Re
		void, empty bool
		first, last string
	}{
		{"empty", api.Re{}, false, true, "", ""},
		{"byte", one('a', 'b'), false, false, "ab", "ab"},
		{"no byte", none, true, false, "", ""},
		{"cat", cat(a, b, c), false, false, "a", "c"},
		{"cat, the first may be empty", cat(maybe(a), b, c), false, false, "ab", "c"},
		{"cat, the last may be empty", cat(a, b, maybe(c)), false, false, "a", "bc"},
		{"cat, the middle may be empty", cat(a, maybe(b), c), false, false, "a", "c"},
		{"cat, all may be empty", cat(maybe(a), maybe(b), maybe(c)), false, true, "abc", "abc"},
		{"cat with what is empty", cat(api.Re{}, a, api.Re{}, b, api.Re{}), false, false, "a", "b"},
		{"cat, void at its end", cat(a, none), true, false, "", ""},
		{"cat, void ahead", cat(none, a), true, false, "", ""},
		{"cat, void behind what may be empty", cat(maybe(a), maybe(b), none), true, false, "", ""},
		{"cat, what is void may be left out", cat(a, maybe(none), b), false, false, "a", "b"},
		{"alt", alt(a, cat(b, c)), false, false, "ab", "ac"},
		{"alt with what is empty", alt(a, api.Re{}), false, true, "a", "a"},
		{"alt with what is void", alt(none, a, cat(b, none)), false, false, "a", "a"},
		{"alt, all void", alt(none, cat(b, none)), true, false, "", ""},
		{"rep", rep(cat(a, b), 2, 3), false, false, "a", "b"},
		{"rep of 0", rep(cat(a, b), 0, 0), false, true, "", ""},
		{"rep of 0 of what is void", rep(none, 0, 0), false, true, "", ""},
		{"rep from 0", rep(cat(a, b), 0, -1), false, true, "a", "b"},
		{"rep from 0 of what is void", rep(none, 0, -1), false, true, "", ""},
		{"rep from 1 of what is void", rep(none, 1, -1), true, false, "", ""},
		{"rep from 1 of what may be empty", rep(cat(maybe(a), maybe(b)), 1, 1), false, true, "ab", "ab"},
		{"rep 64 64", rep(a, 64, 64), false, false, "a", "a"},
		{"rep within cat", cat(rep(a, 0, 0), b, rep(c, 0, 0)), false, false, "b", "b"},
		{"all of a kind", cat(alt(a, b), rep(alt(b, c), 0, -1)), false, false, "ab", "abc"},
	} {
		if rx.Void(x.re) != x.void || rx.Empty(x.re) != x.empty {
			t.Errorf("%s: Void %v, Empty %v", x.name, rx.Void(x.re), rx.Empty(x.re))
		}
		if got := string(octs.Bytes(rx.First(x.re))); got != x.first {
			t.Errorf("%s: First %q, want %q", x.name, got, x.first)
		}
		if got := string(octs.Bytes(rx.Last(x.re))); got != x.last {
			t.Errorf("%s: Last %q, want %q", x.name, got, x.last)
		}
	}
	re := example()
	if rx.First(re) != octs.Of('a') || rx.Last(re) != octs.Any(octs.Of('b'), octs.Range('0', '9')) {
		t.Error("the chapter's example")
	}
}

func TestTextsOfWrongTrees(t *testing.T) {
	for _, x := range mayNotBe() {
		tellsNothing(t, x.name, x.re)
	}
	// A part that would do for the answer doesn't help where another one may not be.
	tellsNothing(t, "a wrong part behind a good one", alt(api.Re{}, one('a'), rep(one('b'), 2, 1)))
	tellsNothing(t, "a wrong part behind a void one", cat(void(), api.Re{Kind: 5}))
}

func TestSets(t *testing.T) {
	a, b, c := one('a'), one('b'), one('c')
	for _, x := range []struct {
		re   api.Re
		want []api.Set
	}{
		{api.Re{}, nil},
		{a, []api.Set{octs.Of('a')}},
		{void(), []api.Set{{}}},
		{cat(api.Re{}, api.Re{}), nil},
		{cat(b, a, b), []api.Set{octs.Of('b'), octs.Of('a'), octs.Of('b')}},
		{rep(a, 5, 64), []api.Set{octs.Of('a')}},
		{rep(a, 0, 0), []api.Set{octs.Of('a')}},
		{cat(alt(c, rep(cat(b, a), 0, 1)), void(), alt(a, c)), []api.Set{octs.Of('c'), octs.Of('b'), octs.Of('a'), {}, octs.Of('a'), octs.Of('c')}},
	} {
		if got := rx.Sets(x.re); !slices.Equal(got, x.want) {
			t.Errorf("Sets(%v): %v, want %v", x.re, got, x.want)
		}
	}
	if n := len(rx.Sets(wide(300))); n != 299 {
		t.Error("all of many:", n)
	}
	for _, re := range trees(good, 300) {
		var want []api.Set
		for _, n := range parts(&re) {
			if n.Kind == api.ReByte && rx.May(re) {
				want = append(want, n.Set)
			}
		}
		if got := rx.Sets(re); !slices.Equal(got, want) {
			t.Errorf("Sets(%v): %v, want %v", re, got, want)
		}
	}
}

func TestSetsAreNewMemory(t *testing.T) {
	re := example()
	l, again := rx.Sets(re), rx.Sets(re)
	for i := range l {
		l[i] = octs.Of(7)
	}
	_ = append(l, octs.Of(8))
	if !sameBy(re, example()) || !slices.Equal(again, rx.Sets(example())) {
		t.Error("shared")
	}
}

// No call changes what it is handed, spare room and all.
func TestArgumentsStay(t *testing.T) {
	room, before := make3(), make3()
	for _, re := range room {
		rx.May(re)
		rx.Nodes(re)
		rx.Deep(re)
		rx.Same(re, room[0])
		rx.Void(re)
		rx.Empty(re)
		rx.First(re)
		rx.Last(re)
		rx.Sets(re)
		rx.Rep(re, 1, 2)
	}
	rx.Cat(room[:2]...)
	rx.Alt(room[:2]...)
	for i := range room {
		for j, n := range parts(&room[i]) {
			m := parts(&before[i])[j]
			if !reflect.DeepEqual(n.Sub[:cap(n.Sub)], m.Sub[:cap(m.Sub)]) {
				t.Error("changed:", room[i])
			}
		}
	}
}
