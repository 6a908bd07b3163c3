package rxprint_test

import (
	"math/rand"
	"reflect"
	"slices"
	"strconv"
	"strings"
	"testing"

	"hackle/api"
	"hackle/lang"
	"hackle/octs"
	"hackle/rx"
	"hackle/rxparse"
	"hackle/rxprint"
)

// plainOf asks that the plain tree of re is want.
func plainOf(t *testing.T, name string, re, want api.Re) {
	t.Helper()
	if got, e := rxprint.Norm(re); e != api.OK || !same(got, want) {
		t.Errorf("%s: Norm(%s): %s, %d, want %s", name, shown(re), shown(got), e, shown(want))
	}
}

// prints asks that re is written as want, and read again.
func prints(t *testing.T, re api.Re, want string) {
	t.Helper()
	if got, e := rxprint.Print(re); e != api.OK || got != want {
		t.Errorf("Print: %q, %d, want %q", got, e, want)
	}
	if got, at, e := rxparse.Parse(want, nil); e != api.OK || at != 0 || !same(got, re) {
		t.Errorf("Parse(%q): %s, %d, %d, want %s", want, shown(got), at, e, shown(re))
	}
}

// tooLong asks that re may be, and is refused for its text's length.
func tooLong(t *testing.T, re api.Re) {
	t.Helper()
	if text, e := rxprint.Print(re); e != api.ErrMany || text != "" || !rx.May(re) {
		t.Errorf("%s: %q, %d, may be: %v", shown(re), text, e, rx.May(re))
	}
}

// P7.1, Norm

func TestNormOfLeaves(t *testing.T) {
	for _, re := range []api.Re{empty, void, a, one('a', 'b'), one(0), one(255), every} {
		plainOf(t, "a leaf", re, re)
	}
	plainOf(t, "a list that is empty, not nil", api.Re{Sub: []api.Re{}}, empty)
	plainOf(t, "a list that is empty, not nil", api.Re{Kind: api.ReByte, Set: octs.Of('a'), Sub: make([]api.Re, 0, 5)}, a)
}

func TestNormOfCat(t *testing.T) {
	for _, x := range []struct {
		name     string
		re, want api.Re
	}{
		{"as it is", cat(a, b), cat(a, b)},
		{"alike ones stay", cat(a, a, a), cat(a, a, a)},
		{"a cat ahead", cat(ab, c), cat(a, b, c)},
		{"a cat behind", cat(c, ab), cat(c, a, b)},
		{"a cat between", cat(c, ab, c), cat(c, a, b, c)},
		{"cats alone", cat(ab, cd), cat(a, b, c, one('d'))},
		{"cats in cats", cat(cat(cat(a, b), cat(b, cat(c, a))), a), cat(a, b, b, c, a, a)},
		{"empty ahead", cat(empty, a, b), cat(a, b)},
		{"empty between", cat(a, empty, empty, b), cat(a, b)},
		{"empty behind", cat(a, b, empty), cat(a, b)},
		{"one stays", cat(empty, a, empty), a},
		{"one stays that is a cat", cat(empty, ab), ab},
		{"one stays that is an alt", cat(alt(ab, c), empty), alt(ab, c)},
		{"one stays that is a rep", cat(star(a), empty), star(a)},
		{"none stays", cat(empty, empty), empty},
		{"none stays of cats", cat(cat(empty, empty), cat(empty, empty)), empty},
		{"void ahead", cat(void, a), void},
		{"void between", cat(a, void, b), void},
		{"void behind", cat(a, b, void), void},
		{"void and empty", cat(empty, void, empty), void},
		{"voids", cat(void, void), void},
		{"void in a cat", cat(a, cat(b, void)), void},
		{"void by an alt", cat(a, alt(void, void)), void},
		{"void by a rep", cat(a, rep(void, 2, 3)), void},
		{"empty by a rep", cat(a, rep(void, 0, 3), b), cat(a, b)},
		{"empty by a rep of 0", cat(a, rep(b, 0, 0), c), cat(a, c)},
		{"a cat by an alt", cat(alt(ab, ab), c), cat(a, b, c)},
		{"a cat by a rep", cat(c, rep(ab, 1, 1)), cat(c, a, b)},
		{"an alt stays", cat(alt(ab, c), alt(ab, c)), cat(alt(ab, c), alt(ab, c))},
		{"a rep stays", cat(star(ab), star(ab)), cat(star(ab), star(ab))},
	} {
		plainOf(t, x.name, x.re, x.want)
	}
}

func TestNormOfAlt(t *testing.T) {
	for _, x := range []struct {
		name     string
		re, want api.Re
	}{
		{"as it is", alt(ab, cd), alt(ab, cd)},
		{"an alt ahead", alt(alt(ab, cd), c), alt(ab, cd, c)},
		{"an alt behind", alt(c, alt(ab, cd)), alt(c, ab, cd)},
		{"an alt between", alt(star(a), alt(ab, cd), star(b)), alt(star(a), ab, cd, star(b))},
		{"alts in alts", alt(alt(ab, alt(cd, star(a))), alt(star(b), c)), alt(ab, cd, star(a), star(b), c)},
		{"void goes", alt(void, ab, void, cd, void), alt(ab, cd)},
		{"one stays", alt(void, ab), ab},
		{"one byte stays", alt(void, a, void), a},
		{"none stays", alt(void, void), void},
		{"none stays of alts", alt(alt(void, void), alt(void, void)), void},
		{"void by a cat", alt(ab, cat(a, void)), ab},
		{"bytes", alt(a, b), one('a', 'b')},
		{"bytes alike", alt(a, a), a},
		{"bytes, where the first stands", alt(ab, a, cd, b, star(a), c), alt(ab, one('a', 'b', 'c'), cd, star(a))},
		{"bytes, the first ahead", alt(b, ab, a), alt(one('a', 'b'), ab)},
		{"bytes, a void one ahead", alt(void, ab, a), alt(ab, a)},
		{"bytes, void ones ahead", alt(void, ab, void, cd, b, a), alt(ab, cd, one('a', 'b'))},
		{"bytes of alts", alt(alt(ab, a), alt(b, cd)), alt(ab, one('a', 'b'), cd)},
		{"bytes of an alt behind", alt(ab, alt(a, b)), alt(ab, one('a', 'b'))},
		{"bytes to all", alt(set(octs.Range(0, 127)), ab, set(octs.Range(128, 255))), alt(every, ab)},
		{"bytes in four words", alt(one(0), one(64), one(128), one(192), one(255)), one(0, 64, 128, 192, 255)},
		{"alike ones", alt(ab, cd, ab, star(a), cd, ab), alt(ab, cd, star(a))},
		{"alike ones alone", alt(ab, ab, ab), ab},
		{"alike once plain", alt(ab, cat(a, empty, b), cat(cat(a, b), empty)), ab},
		{"alike by an alt within", alt(ab, alt(cd, ab), cd), alt(ab, cd)},
		{"empty ones", alt(empty, empty), empty},
		{"empty stays", alt(a, empty, b, empty), alt(one('a', 'b'), empty)},
		{"empty by a rep", alt(empty, ab, star(void)), alt(empty, ab)},
		{"other bounds aren't alike", alt(rep(a, 0, 1), rep(a, 0, 2), rep(a, 1, 2)), alt(rep(a, 0, 1), rep(a, 0, 2), rep(a, 1, 2))},
		{"another order isn't alike", alt(ab, cat(b, a)), alt(ab, cat(b, a))},
		{"a longer one isn't alike", alt(ab, cat(a, b, c), ab), alt(ab, cat(a, b, c))},
		{"a cat of bytes is no byte", alt(a, ab, b), alt(one('a', 'b'), ab)},
	} {
		plainOf(t, x.name, x.re, x.want)
	}
}

func TestNormOfRep(t *testing.T) {
	for _, x := range []struct {
		name     string
		re, want api.Re
	}{
		{"Max 0", rep(a, 0, 0), empty},
		{"Max 0 of void", rep(void, 0, 0), empty},
		{"Max 0 of a star", rep(star(a), 0, 0), empty},
		{"of empty", star(empty), empty},
		{"of empty, 1 or more", rep(empty, 1, -1), empty},
		{"of empty, 1", rep(empty, 1, 1), empty},
		{"of empty, 64", rep(empty, 64, 64), empty},
		{"of empty once plain", rep(cat(empty, empty), 2, 5), empty},
		{"of void, 0 or more", star(void), empty},
		{"of void, 0 or 1", rep(void, 0, 1), empty},
		{"of void, 0 to 64", rep(void, 0, 64), empty},
		{"of void, 1 or more", rep(void, 1, -1), void},
		{"of void, 1", rep(void, 1, 1), void},
		{"of void, 2 to 3", rep(void, 2, 3), void},
		{"of void once plain", rep(cat(a, void), 3, -1), void},
		{"once", rep(a, 1, 1), a},
		{"once, of a cat", rep(ab, 1, 1), ab},
		{"once, of a rep", rep(rep(a, 2, 3), 1, 1), rep(a, 2, 3)},
		{"once of once", rep(rep(ab, 1, 1), 1, 1), ab},
		{"a star of a star", star(star(a)), star(a)},
		{"stars", star(star(star(star(ab)))), star(ab)},
		{"a star of once a star", star(rep(star(a), 1, 1)), star(a)},
		{"a star of a cat of a star", star(cat(empty, star(a))), star(a)},
		{"a star of 1 or more", star(rep(a, 1, -1)), star(rep(a, 1, -1))},
		{"a star of 0 or 1", star(rep(a, 0, 1)), star(rep(a, 0, 1))},
		{"a star of 0 to 64", star(rep(a, 0, 64)), star(rep(a, 0, 64))},
		{"1 or more of a star", rep(star(a), 1, -1), rep(star(a), 1, -1)},
		{"0 or 1 of a star", rep(star(a), 0, 1), rep(star(a), 0, 1)},
		{"2 of a star", rep(star(a), 2, 2), rep(star(a), 2, 2)},
		{"0 or 1 twice", rep(rep(a, 0, 1), 0, 1), rep(rep(a, 0, 1), 0, 1)},
		{"of an alt", star(alt(a, b)), star(one('a', 'b'))},
		{"of a cat", rep(cat(ab, empty, c), 0, 64), rep(cat(a, b, c), 0, 64)},
	} {
		plainOf(t, x.name, x.re, x.want)
	}
	for lo := range 65 {
		for hi := lo - 1; hi <= 64; hi++ {
			re := rep(ab, lo, hi)
			if hi < lo {
				re.Max = -1
			}
			switch {
			case re.Max == 0:
				plainOf(t, "bounds", re, empty)
			case lo == 1 && hi == 1:
				plainOf(t, "bounds", re, ab)
			default:
				plainOf(t, "bounds", re, re)
			}
		}
	}
}

func TestNormExamples(t *testing.T) {
	plainOf(t, "the chapter's", alt(a, b, cat(empty, a)), one('a', 'b'))
	plainOf(t, "many at once", cat(alt(cat(a, empty), cat(void, b), rep(b, 1, 1)), star(star(alt(ab, cat(ab, empty))))), cat(one('a', 'b'), star(ab)))
}

func TestNormAgainstModel(t *testing.T) {
	changed := 0
	for _, re := range trees(1, 20000) {
		want := plainModel(re)
		if !same(want, re) {
			changed++
		}
		plainOf(t, "at random", re, want)
		if t.Failed() {
			t.FailNow()
		}
	}
	if changed < 5000 {
		t.Error("too few trees that aren't plain:", changed)
	}
}

func TestNormAtTheLimits(t *testing.T) {
	plainOf(t, "300 nodes", wide(300), wide(300))
	plainOf(t, "30 deep", chain(30), chain(30))
	stars, once, cats, alts := a, a, a, a
	for range 29 {
		stars, once, cats, alts = star(stars), rep(once, 1, 1), cat(empty, cats), alt(empty, alts)
	}
	plainOf(t, "30 deep, stars", stars, star(a))
	plainOf(t, "30 deep, once", once, a)
	plainOf(t, "30 deep, cats", cats, a)
	plainOf(t, "30 deep, alts", alts, alt(empty, a))
	many := make([]api.Re, 299)
	for i := range many {
		many[i] = one(byte(i))
	}
	plainOf(t, "299 bytes", alt(many...), every)
}

func TestNormRefuses(t *testing.T) {
	for i, re := range mayNotBe() {
		if got, e := rxprint.Norm(re); e != api.ErrArg || !reflect.DeepEqual(got, api.Re{}) {
			t.Errorf("tree %d: %d, %d", i, got.Kind, e)
		}
	}
}

// P7.1, Print

// alone is all 256 bytes from 0 on, each as it is written alone.
const alone = `\x00\x01\x02\x03\x04\x05\x06\x07\x08\t\n\x0b\x0c\r\x0e\x0f` +
	`\x10\x11\x12\x13\x14\x15\x16\x17\x18\x19\x1a\x1b\x1c\x1d\x1e\x1f` +
	` !"#$%&'\(\)\*\+,-\.\/0123456789:;\<=\>\?@ABCDEFGHIJKLMNOPQRSTUVWXYZ\[\\\]^_` + "`abcdefghijklmnopqrstuvwxyz" + `\{\|\}~\x7f` +
	`\x80\x81\x82\x83\x84\x85\x86\x87\x88\x89\x8a\x8b\x8c\x8d\x8e\x8f` +
	`\x90\x91\x92\x93\x94\x95\x96\x97\x98\x99\x9a\x9b\x9c\x9d\x9e\x9f` +
	`\xa0\xa1\xa2\xa3\xa4\xa5\xa6\xa7\xa8\xa9\xaa\xab\xac\xad\xae\xaf` +
	`\xb0\xb1\xb2\xb3\xb4\xb5\xb6\xb7\xb8\xb9\xba\xbb\xbc\xbd\xbe\xbf` +
	`\xc0\xc1\xc2\xc3\xc4\xc5\xc6\xc7\xc8\xc9\xca\xcb\xcc\xcd\xce\xcf` +
	`\xd0\xd1\xd2\xd3\xd4\xd5\xd6\xd7\xd8\xd9\xda\xdb\xdc\xdd\xde\xdf` +
	`\xe0\xe1\xe2\xe3\xe4\xe5\xe6\xe7\xe8\xe9\xea\xeb\xec\xed\xee\xef` +
	`\xf0\xf1\xf2\xf3\xf4\xf5\xf6\xf7\xf8\xf9\xfa\xfb\xfc\xfd\xfe\xff`

func TestPrintOfOneByte(t *testing.T) {
	all := ""
	for x := range 256 {
		text, e := rxprint.Print(one(byte(x)))
		if e != api.OK {
			t.Fatal(x, e)
		}
		all += text
		prints(t, one(byte(x)), text)
	}
	if all != alone {
		t.Errorf("%s, want %s", all, alone)
	}
}

// No two bytes of a class of every second one are a range, so that each is written.
func TestPrintOfEachByteInAClass(t *testing.T) {
	for from, want := range []string{
		`[ "$&(*,.02468:<>@BDFHJLNPRTVXZ\\\^` + "`bdfhjlnprtvxz|~]",
		`[!#%')+\-\/13579;=?ACEGIKMOQSUWY\[\]_acegikmoqsuwy{}]`,
	} {
		var l []byte
		for x := 32 + from; x < 127; x += 2 {
			l = append(l, byte(x))
		}
		prints(t, one(l...), want)
	}
	prints(t, one(0, 2, 4, 9, 11, 13, 31, 127, 129, 255), `[\x00\x02\x04\t\x0b\r\x1f\x7f\x81\xff]`)
	prints(t, one(8, 10, 12, 14, 30, 128, 254), `[\x08\n\x0c\x0e\x1e\x80\xfe]`)
}

func TestPrintOfSets(t *testing.T) {
	for _, x := range []struct {
		s    api.Set
		want string
	}{
		{api.Set{}, "[]"},
		{octs.Range(0, 255), "."},
		{octs.Range(0, 254), `[\x00-\xfe]`},
		{octs.Range(1, 255), `[\x01-\xff]`},
		{octs.Not(octs.Of('a')), "[\\x00-`b-\\xff]"},
		{octs.Of('a', 'b'), "[a-b]"},
		{octs.Of('a', 'c'), "[ac]"},
		{octs.Range('a', 'c'), "[a-c]"},
		{octs.Of('a', 'b', 'c', 'x'), "[a-cx]"},
		{octs.Of('x', 'a', 'b', 'c', 'z', 'y'), "[a-cx-z]"},
		{octs.Of('-', 'a'), `[\-a]`},
		{octs.Range('-', '.'), `[\--.]`},
		{octs.Range('+', '-'), `[+-\-]`},
		{octs.Range('.', '/'), `[.-\/]`},
		{octs.Range('[', '^'), `[\[-\^]`},
		{octs.Range('\\', ']'), `[\\-\]]`},
		{octs.Of('^', 'a'), `[\^a]`},
		{octs.Of('\n', '\r', '\t'), `[\t-\n\r]`},
		{octs.Range(9, 13), `[\t-\r]`},
		{octs.Range(0, 10), `[\x00-\n]`},
		{octs.Range(63, 64), `[?-@]`},
		{octs.Range(127, 128), `[\x7f-\x80]`},
		{octs.Range(190, 194), `[\xbe-\xc2]`},
		{octs.Of(0, 255), `[\x00\xff]`},
	} {
		prints(t, set(x.s), x.want)
	}
	for lo := range 256 {
		for hi := lo; hi < 256; hi++ {
			s := octs.Range(byte(lo), byte(hi))
			prints(t, set(s), classModel(s))
		}
	}
	m := maker{rand.New(rand.NewSource(2))}
	for range 5000 {
		if s := m.anySet(); len(classModel(s)) <= 400 {
			prints(t, set(s), classModel(s))
		}
	}
}

func TestPrintOfNodesInNodes(t *testing.T) {
	class := one('a', 'b')
	for _, x := range []struct {
		re   api.Re
		want string
	}{
		{empty, "()"},
		{cat(empty, empty), "()()"},
		{cat(a, b), "ab"},
		{cat(a, class, every, void), "a[a-b].[]"},
		{cat(a, ab), "a(ab)"},
		{cat(ab, a), "(ab)a"},
		{cat(ab, cd), "(ab)(cd)"},
		{cat(a, alt(b, c)), "a(b|c)"},
		{cat(alt(b, c), a), "(b|c)a"},
		{cat(a, star(b), c), "ab*c"},
		{cat(empty, a, empty), "()a()"},
		{alt(empty, empty), "()|()"},
		{alt(a, b), "a|b"},
		{alt(class, every, void), "[a-b]|.|[]"},
		{alt(ab, cd), "ab|cd"},
		{alt(a, alt(b, c)), "a|(b|c)"},
		{alt(alt(a, b), c), "(a|b)|c"},
		{alt(star(a), empty), "a*|()"},
		{star(empty), "()*"},
		{star(a), "a*"},
		{star(class), "[a-b]*"},
		{star(every), ".*"},
		{star(void), "[]*"},
		{star(ab), "(ab)*"},
		{star(alt(a, b)), "(a|b)*"},
		{star(star(a)), "(a*)*"},
		{rep(rep(a, 2, 3), 4, 4), "(a{2,3}){4}"},
		{star(one('*')), `\**`},
		{cat(a, star(alt(b, cd))), "a(b|cd)*"},
		{cat(a, cat(b, cat(c, alt(a, cat(b, alt(c, a)))))), "a(b(c(a|b(c|a))))"},
		{alt(cat(a, alt(b, c)), alt(cat(a, ab), star(alt(a, empty)))), "a(b|c)|(a(ab)|(a|())*)"},
	} {
		prints(t, x.re, x.want)
	}
}

func TestPrintOfBounds(t *testing.T) {
	for lo := range 65 {
		for hi := lo; hi <= 64; hi++ {
			want := "a{" + strconv.Itoa(lo) + "," + strconv.Itoa(hi) + "}"
			switch {
			case lo == hi:
				want = "a{" + strconv.Itoa(lo) + "}"
			case lo == 0 && hi == 1:
				want = "a?"
			}
			prints(t, rep(a, lo, hi), want)
		}
		want := "a{" + strconv.Itoa(lo) + ",}"
		if lo < 2 {
			want = []string{"a*", "a+"}[lo]
		}
		prints(t, rep(a, lo, -1), want)
	}
	prints(t, rep(ab, 0, 0), "(ab){0}")
	prints(t, rep(empty, 64, 64), "(){64}")
}

func TestPrintAgainstModel(t *testing.T) {
	told := 0
	m := maker{rand.New(rand.NewSource(5))}
	for _, re := range trees(3, 20000) {
		if m.Intn(2) == 0 {
			re = cat(set(m.anySet()), re, star(set(m.anySet())))
		}
		want := writtenModel(re)
		if nodes(re) > 300 {
			continue
		}
		if len(want) > 400 {
			tooLong(t, re)
			continue
		}
		told++
		prints(t, re, want)
		if t.Failed() {
			t.FailNow()
		}
	}
	if told < 10000 {
		t.Error("too few texts:", told)
	}
}

func TestPrintAtTheTextLimit(t *testing.T) {
	bytes := func(x byte, n int) api.Re { return cat(slices.Repeat([]api.Re{one(x)}, n)...) }
	prints(t, bytes(0, 100), strings.Repeat(`\x00`, 100))
	tooLong(t, bytes(0, 101))
	prints(t, bytes('*', 200), strings.Repeat(`\*`, 200))
	tooLong(t, bytes('*', 201))
	tooLong(t, cat(bytes('*', 199), a)) // ( and ) count
	prints(t, cat(bytes('*', 198), one('*')), "("+strings.Repeat(`\*`, 198)+`)\*`)
	tooLong(t, cat(bytes('*', 198), one('*'), a))
	for n := 195; n < 205; n++ { // each length about the limit
		for _, x := range []struct {
			more api.Re
			size int
		}{{a, 1}, {one('\n'), 2}, {rep(a, 0, 2), 6}, {empty, 2}, {every, 1}, {one('a', 'c'), 4}} {
			re := cat(append(bytes('*', n).Sub, x.more)...)
			if 2*n+x.size > 400 {
				tooLong(t, re)
			} else {
				prints(t, re, strings.Repeat(`\*`, n)+writtenModel(x.more))
			}
		}
	}
	prints(t, wide(300), strings.Repeat("a", 299))
	prints(t, alt(slices.Repeat([]api.Re{a}, 200)...), strings.Repeat("a|", 199)+"a")
	prints(t, alt(append(slices.Repeat([]api.Re{a}, 199), ab)...), strings.Repeat("a|", 199)+"ab")
	tooLong(t, alt(append(slices.Repeat([]api.Re{a}, 199), cat(a, b, c))...))
	var pairs []byte
	for x := 0; x < 256; x++ {
		if x%3 > 0 {
			pairs = append(pairs, byte(x))
		}
	}
	tooLong(t, one(pairs...)) // one class alone
	tooLong(t, cat(slices.Repeat([]api.Re{one(pairs...)}, 299)...))
}

func TestPrintOfDeepTrees(t *testing.T) {
	nest := func(leaf api.Re, in func(api.Re) api.Re) api.Re {
		for range 29 {
			leaf = in(leaf)
		}
		return leaf
	}
	open, shut := strings.Repeat("(", 28), strings.Repeat(")", 28)
	prints(t, nest(a, star), open+"a*"+strings.Repeat(")*", 28))
	prints(t, nest(empty, star), open+"()*"+strings.Repeat(")*", 28))
	prints(t, nest(empty, func(re api.Re) api.Re { return cat(a, re) }), strings.Repeat("a(", 28)+"a()"+shut)
	prints(t, nest(empty, func(re api.Re) api.Re { return alt(re, a) }), open+"()|a"+strings.Repeat(")|a", 28))
	for _, leaf := range []api.Re{a, empty, void, every} {
		for _, in := range []func(api.Re) api.Re{star, func(re api.Re) api.Re { return cat(re, re) }} {
			tooDeep := nest(star(leaf), in)
			if text, e := rxprint.Print(tooDeep); e != api.ErrArg || text != "" {
				t.Errorf("31 deep: %q, %d", text, e)
			}
		}
	}
}

func TestPrintRefuses(t *testing.T) {
	for i, re := range mayNotBe() {
		if text, e := rxprint.Print(re); e != api.ErrArg || text != "" {
			t.Errorf("tree %d: %q, %d", i, text, e)
		}
	}
	// That a tree may not be is told ahead of how long its text would be.
	long := cat(append(slices.Repeat([]api.Re{one(0)}, 200), rep(a, 2, 1))...)
	if text, e := rxprint.Print(long); e != api.ErrArg || text != "" {
		t.Errorf("%q, %d", text, e)
	}
}

// P7.2

// words is all texts of a, b, c of at most n bytes.
func words(n int) []string {
	l, from := []string{""}, 0
	for range n {
		behind := len(l)
		for _, s := range l[from:behind] {
			for _, x := range "abc" {
				l = append(l, s+string(x))
			}
		}
		from = behind
	}
	return l
}

func TestPlainTreesHaveTheSameTexts(t *testing.T) {
	all := words(4)
	for _, re := range trees(7, 600) {
		got, e := rxprint.Norm(re)
		if e != api.OK {
			t.Fatalf("%s: %d", shown(re), e)
		}
		if rx.Void(got) != rx.Void(re) || rx.Empty(got) != rx.Empty(re) || rx.First(got) != rx.First(re) || rx.Last(got) != rx.Last(re) {
			t.Fatalf("%s: other texts than %s", shown(got), shown(re))
		}
		for _, s := range all {
			if lang.Takes(got, s) != lang.Takes(re, s) || lang.Begins(got, s) != lang.Begins(re, s) {
				t.Fatalf("%q: %s isn't as %s", s, shown(got), shown(re))
			}
		}
	}
}

func TestPlainTreesArePlain(t *testing.T) {
	for _, re := range trees(8, 20000) {
		got, e := rxprint.Norm(re)
		if e != api.OK || !rx.May(got) {
			t.Fatalf("%s: %s, %d", shown(re), shown(got), e)
		}
		if nodes(got) > nodes(re) || deep(got) > deep(re) {
			t.Fatalf("%s: %s has more nodes, or is deeper", shown(re), shown(got))
		}
		if !isPlain(got) {
			t.Fatalf("%s: %s isn't plain", shown(re), shown(got))
		}
		plainOf(t, "plain already", got, got)
		if isPlain(re) {
			plainOf(t, "plain as it was", re, re)
		}
	}
}

func TestWhatIsWrittenIsParsed(t *testing.T) {
	m := maker{rand.New(rand.NewSource(9))}
	told := 0
	for _, re := range trees(10, 20000) {
		if m.Intn(2) == 0 {
			re = alt(re, set(m.anySet()))
		}
		text, e := rxprint.Print(re)
		if e == api.ErrMany || nodes(re) > 300 {
			continue
		}
		got, at, f := rxparse.Parse(text, nil)
		if e != api.OK || f != api.OK || at != 0 || !same(got, re) || len(text) > 400 {
			t.Fatalf("%s: %q, %d: %s, %d, %d", shown(re), text, e, shown(got), at, f)
		}
		again, e := rxprint.Print(got)
		if e != api.OK || again != text {
			t.Fatalf("%q, written again: %q, %d", text, again, e)
		}
		told++
	}
	if told < 10000 {
		t.Error("too few texts:", told)
	}
}

// The rules that hold everywhere

// scribble spoils all that re's lists hold, and the room behind them.
func scribble(re *api.Re) {
	for i := range re.Sub {
		scribble(&re.Sub[i])
	}
	room := re.Sub[:cap(re.Sub)]
	for i := range room {
		room[i] = api.Re{Kind: 77}
	}
}

// lists is all lists of a tree, each with its spare room.
func lists(re api.Re) [][]api.Re {
	var l [][]api.Re
	if cap(re.Sub) > 0 {
		l = append(l, re.Sub[:cap(re.Sub)])
	}
	for _, sub := range re.Sub {
		l = append(l, lists(sub)...)
	}
	return l
}

// shares tells whether two lists have a place in common.
func shares(x, y []api.Re) bool {
	for i := range x {
		for j := range y {
			if &x[i] == &y[j] {
				return true
			}
		}
	}
	return false
}

// roomy is re in new memory, each list with spare room behind it that can be known again.
func roomy(re api.Re) api.Re {
	l := make([]api.Re, 0, len(re.Sub)+2)
	for _, sub := range re.Sub {
		l = append(l, roomy(sub))
	}
	room := l[:cap(l)]
	for i := len(l); i < len(room); i++ {
		room[i] = api.Re{Kind: 55}
	}
	re.Sub = l
	return re
}

func TestMemory(t *testing.T) {
	shared := []api.Re{star(a), b}
	asked := []api.Re{
		empty, a, cat(a, b), cat(cat(a, b), cat(a, b)), alt(ab, cat(ab, empty), cd), star(star(ab)), rep(ab, 1, 1), cat(empty, ab), alt(void, star(ab)),
		cat(api.Re{Kind: api.ReAlt, Sub: shared}, api.Re{Kind: api.ReAlt, Sub: shared}), star(api.Re{Kind: api.ReCat, Sub: shared}),
	}
	for _, re := range append(asked, trees(11, 500)...) {
		in := roomy(re)
		before := roomy(re)
		first, _ := rxprint.Norm(in)
		second, _ := rxprint.Norm(in)
		rxprint.Print(in)
		want := copied(first)
		if !reflect.DeepEqual(in, before) || !reflect.DeepEqual(lists(in), lists(before)) {
			t.Fatalf("%s: changed", shown(re))
		}
		own := lists(first)
		for i, x := range own {
			for _, y := range append(lists(in), append(lists(second), own[i+1:]...)...) {
				if shares(x, y) {
					t.Fatalf("%s: shared memory", shown(re))
				}
			}
		}
		scribble(&first)
		scribble(&in)
		if !same(second, want) {
			t.Fatalf("%s: spoilt", shown(re))
		}
	}
	// Nor where lists of what is handed in are one.
	in := cat(api.Re{Kind: api.ReAlt, Sub: shared}, api.Re{Kind: api.ReAlt, Sub: shared})
	got, _ := rxprint.Norm(in)
	scribble(&got.Sub[0])
	if !same(got.Sub[1], alt(star(a), b)) || !same(in.Sub[0], alt(star(a), b)) {
		t.Error("lists of one answer share memory")
	}
}

func TestAnswersAreTheSameEachTime(t *testing.T) {
	for _, re := range trees(12, 2000) {
		x, e := rxprint.Norm(re)
		y, f := rxprint.Norm(re)
		if e != f || !same(x, y) {
			t.Fatalf("Norm(%s): %s, then %s", shown(re), shown(x), shown(y))
		}
		s, e := rxprint.Print(re)
		r, f := rxprint.Print(re)
		if e != f || s != r {
			t.Fatalf("Print(%s): %q, then %q", shown(re), s, r)
		}
	}
}
