package rprint_test

import (
	"fmt"
	"math"
	"reflect"
	"strings"
	"testing"

	"hackle/api"
	"hackle/octs"
	"hackle/rprint"
	"hackle/rules"
	"hackle/rx"
	"hackle/rxprint"
)

// whole is a file with each form of a rule, in new memory; wholeText is it written.
func whole() api.File {
	digit := rx.Byte(octs.Range('0', '9'))
	return api.File{
		Frags: []api.Frag{{Name: "d", Re: digit}, {Name: "e"}},
		Modes: []api.Mode{
			{Name: "a", End: true, Limit: 9, Rules: []api.Rule{
				{Name: "n", Base: 10, Most: 99, After: rx.Text(":"), Next: api.Next{Kind: api.NextCount, Mode: 1, Add: 1, Max: 100}},
				{Name: "q", Before: rx.Cat(digit, rx.Text("x")), Next: api.Next{Kind: api.NextUntil, Max: 5, Delim: "\r\n\"\x00"}},
				{Name: "a", Before: rx.Alt(rx.Text("y"), api.Re{}), Next: api.Next{Mode: 2}},
			}},
			{Name: "b", Limit: 20, Rules: []api.Rule{
				{Name: "h", Before: rx.Text("x"), Base: 16, Most: math.MaxInt64, Next: api.Next{Mode: 1}},
				{Name: "n", Before: rx.Cat(rx.Rep(digit, 1, -1), rx.Text("/")), Next: api.Next{Kind: api.NextUntil, Own: true}},
			}},
			{Name: "d", Limit: 4096},
		},
	}
}

const wholeText = "frag d /[0-9]/\nfrag e //\n" +
	"mode a limit 9 end\nrule n // dec 99 /:/ count 1 max 100 -> b\nrule q /[0-9]x/ until \"\\r\\n\\\"\\x00\" max 5 -> a\nrule a /y|()/ -> d\n" +
	"mode b limit 20\nrule h /x/ hex 9223372036854775807 // -> b\nrule n /[0-9]+\\// until own max 0 -> a\n" +
	"mode d limit 4096\n"

// printed asks that f is written as the text, or not, for the error.
func printed(t *testing.T, what string, f api.File, text string, e api.Errno) {
	t.Helper()
	if got, x := rprint.Print(f); got != text || x != e {
		t.Errorf("%s: %.900q, %d, want %.900q, %d", what, got, x, text, e)
	}
}

// P14.1, May

// change is what is changed of the whole file, and whether it may be then.
type change struct {
	what string
	do   func(f *api.File)
	may  bool
}

// n, q, a, h and o are the rules of the whole file, one of each form.
func n(f *api.File) *api.Rule { return &f.Modes[0].Rules[0] }
func q(f *api.File) *api.Rule { return &f.Modes[0].Rules[1] }
func a(f *api.File) *api.Rule { return &f.Modes[0].Rules[2] }
func h(f *api.File) *api.Rule { return &f.Modes[1].Rules[0] }
func o(f *api.File) *api.Rule { return &f.Modes[1].Rules[1] }

func mayBe(t *testing.T, l []change) {
	t.Helper()
	for _, x := range l {
		f := whole()
		x.do(&f)
		if got := rprint.May(f); got != x.may {
			t.Errorf("%s: %v", x.what, got)
		}
		if got := mayModel(f); got != x.may {
			t.Errorf("%s: the model says %v", x.what, got)
		}
		// What may not be isn't written, and what may be is read again.
		text, e := rprint.Print(f)
		if !x.may {
			printed(t, x.what, f, "", api.ErrArg)
			continue
		}
		g, _, y := rules.Parse(text)
		if e != api.OK || y != api.OK || !rprint.Same(f, g) {
			t.Errorf("%s: %q, %d, read: %d", x.what, text, e, y)
		}
	}
}

func TestMayOfLists(t *testing.T) {
	frags := func(l int) func(f *api.File) {
		return func(f *api.File) {
			f.Frags = nil
			for i := range l {
				f.Frags = append(f.Frags, api.Frag{Name: fmt.Sprint("f", i)})
			}
		}
	}
	modes := func(l int) func(f *api.File) {
		return func(f *api.File) {
			for i := 3; i < l; i++ {
				f.Modes = append(f.Modes, api.Mode{Name: fmt.Sprint("m", i), Limit: 1})
			}
		}
	}
	of := func(mode, l int) func(f *api.File) {
		return func(f *api.File) {
			f.Modes[mode].Rules = nil
			for i := range l {
				f.Modes[mode].Rules = append(f.Modes[mode].Rules, api.Rule{Name: fmt.Sprint("r", i)})
			}
		}
	}
	mayBe(t, []change{
		{"nothing changed", func(f *api.File) {}, true},
		{"nothing", func(f *api.File) { *f = api.File{} }, false},
		{"no mode", func(f *api.File) { f.Modes = nil }, false},
		{"an empty list of modes", func(f *api.File) { f.Modes = []api.Mode{} }, false},
		{"one mode without rules", func(f *api.File) { f.Modes = f.Modes[2:] }, true},
		{"no fragment", func(f *api.File) { f.Frags = []api.Frag{} }, true},
		{"40 fragments", frags(40), true}, {"41 fragments", frags(41), false}, {"100 fragments", frags(100), false},
		{"15 modes", modes(15), true}, {"16 modes", modes(16), true}, {"17 modes", modes(17), false}, {"40 modes", modes(40), false},
		{"no rules", of(0, 0), true}, {"39 rules", of(0, 39), true}, {"40 rules", of(0, 40), true}, {"41 rules", of(0, 41), false}, {"41 rules of the last mode", of(2, 41), false},
		{"40 rules of two modes", func(f *api.File) { of(0, 40)(f); of(2, 40)(f) }, true},
	})
}

func TestMayOfNames(t *testing.T) {
	setters := map[string]func(f *api.File, s string){
		"fragment":      func(f *api.File, s string) { f.Frags[0].Name = s },
		"last fragment": func(f *api.File, s string) { f.Frags[1].Name = s },
		"mode":          func(f *api.File, s string) { f.Modes[0].Name = s },
		"last mode":     func(f *api.File, s string) { f.Modes[2].Name = s },
		"rule":          func(f *api.File, s string) { n(f).Name = s },
		"last rule":     func(f *api.File, s string) { o(f).Name = s },
	}
	twice := map[string][]string{"fragment": {"e"}, "last fragment": {"d"}, "mode": {"b", "d"}, "last mode": {"a", "b"}, "rule": {"q", "a"}, "last rule": {"h"}}
	for what, set := range setters {
		var l []change
		add := func(name string, may bool) {
			l = append(l, change{fmt.Sprintf("%s %q", what, name), func(f *api.File) { set(f, name) }, may})
		}
		for _, name := range []string{"", "A", "0", "9a", "_", "a_", "a-b", "aB", "a ", " a", "a\n", "é", "a\x00", "\xff", "a/", strings.Repeat("a", 25), strings.Repeat("a", 1<<20)} {
			add(name, false)
		}
		for _, name := range []string{"x", "z", "x0", "a9z", strings.Repeat("a", 24), "limit", "end", "own", "z" + strings.Repeat("9", 23)} {
			add(name, true)
		}
		for _, name := range twice[what] {
			add(name, false)
		}
		mayBe(t, l)
	}
	mayBe(t, []change{
		{"a mode as a fragment", func(f *api.File) { f.Modes[0].Name = "e" }, true},
		{"a rule as a fragment", func(f *api.File) { n(f).Name = "d" }, true},
		{"a rule as a rule of another mode", func(f *api.File) { n(f).Name = "h" }, true},
		{"a rule as its mode", func(f *api.File) { o(f).Name = "b" }, true},
	})
}

func TestMayOfTrees(t *testing.T) {
	deep := func(n int) api.Re {
		re := rx.Text("a")
		for range n - 1 {
			re = rx.Rep(re, 0, 1)
		}
		return re
	}
	setters := map[string]func(f *api.File, re api.Re){
		"a fragment":                func(f *api.File, re api.Re) { f.Frags[0].Re = re },
		"the last fragment":         func(f *api.File, re api.Re) { f.Frags[1].Re = re },
		"what is ahead of a number": func(f *api.File, re api.Re) { n(f).Before = re },
		"what is behind a number":   func(f *api.File, re api.Re) { h(f).After = re },
		"a rule":                    func(f *api.File, re api.Re) { a(f).Before = re },
		"the last rule":             func(f *api.File, re api.Re) { o(f).Before = re },
	}
	for what, set := range setters {
		mayBe(t, []change{
			{what + ": empty", func(f *api.File) { set(f, api.Re{Sub: []api.Re{}}) }, true},
			{what + ": no byte", func(f *api.File) { set(f, rx.Byte(api.Set{})) }, true},
			{what + ": 30 deep", func(f *api.File) { set(f, deep(30)) }, true},
			{what + ": 31 deep", func(f *api.File) { set(f, deep(31)) }, false},
			{what + ": 300 nodes", func(f *api.File) { set(f, rx.Text(strings.Repeat("a", 299))) }, true},
			{what + ": 301 nodes", func(f *api.File) { set(f, rx.Text(strings.Repeat("a", 300))) }, false},
			{what + ": of no kind", func(f *api.File) { set(f, api.Re{Kind: 5}) }, false},
			{what + ": of the kind -1", func(f *api.File) { set(f, api.Re{Kind: -1}) }, false},
			{what + ": empty with a set", func(f *api.File) { set(f, api.Re{Set: octs.Of(1)}) }, false},
			{what + ": empty with a count", func(f *api.File) { set(f, api.Re{Max: 1}) }, false},
			{what + ": empty with a part", func(f *api.File) { set(f, api.Re{Sub: []api.Re{{}}}) }, false},
			{what + ": a row of one", func(f *api.File) { set(f, api.Re{Kind: api.ReCat, Sub: []api.Re{{}}}) }, false},
			{what + ": repeated too often", func(f *api.File) { set(f, rx.Rep(rx.Text("a"), 0, 65)) }, false},
			{what + ": a part of no kind", func(f *api.File) { set(f, rx.Cat(rx.Text("a"), api.Re{Kind: 9})) }, false},
		})
	}
}

func TestMayOfModes(t *testing.T) {
	var l []change
	for mode := range 3 {
		for limit, may := range map[int]bool{math.MinInt: false, -4096: false, -1: false, 0: false, 1: true, 2: true, 4095: true, 4096: true, 4097: false, 1 << 32: false, 1<<32 + 1: false, math.MaxInt: false} {
			l = append(l, change{fmt.Sprint("limit ", limit), func(f *api.File) { f.Modes[mode].Limit = limit }, may})
		}
		l = append(l, change{"end", func(f *api.File) { f.Modes[mode].End = !f.Modes[mode].End }, true})
	}
	mayBe(t, l)
}

func TestMayOfNumbers(t *testing.T) {
	var l []change
	for _, base := range []int{math.MinInt, -10, -1, 0, 1, 2, 8, 9, 10, 11, 12, 15, 16, 17, 26, 1<<32 + 10, 1<<32 + 16} {
		l = append(l,
			change{fmt.Sprint("base ", base, " with a number"), func(f *api.File) { n(f).Base = base }, base == 10 || base == 16},
			change{fmt.Sprint("base ", base, " of the last mode"), func(f *api.File) { h(f).Base = base }, base == 10 || base == 16},
			change{fmt.Sprint("base ", base, " without a number"), func(f *api.File) { a(f).Base = base }, base == 0 || base == 10 || base == 16},
		)
	}
	for _, most := range []uint64{0, 1, 2, math.MaxInt64 - 1, math.MaxInt64, math.MaxInt64 + 1, math.MaxInt64 + 2, math.MaxUint64} {
		l = append(l,
			change{fmt.Sprint("most ", most, " of 10"), func(f *api.File) { n(f).Most = most }, most <= math.MaxInt64},
			change{fmt.Sprint("most ", most, " of 16"), func(f *api.File) { h(f).Most = most }, most <= math.MaxInt64},
			change{fmt.Sprint("most ", most, " of 0"), func(f *api.File) { a(f).Most = most }, most == 0},
			change{fmt.Sprint("most ", most, " of 0 with a body"), func(f *api.File) { o(f).Most = most }, most == 0},
		)
	}
	for _, re := range []api.Re{rx.Text("a"), rx.Text("ab"), rx.Byte(api.Set{}), rx.Rep(api.Re{}, 0, 0), rx.Alt(api.Re{}, api.Re{}), rx.Cat(api.Re{}, api.Re{})} {
		l = append(l,
			change{"behind no number", func(f *api.File) { a(f).After = re }, false},
			change{"behind no number, with a body", func(f *api.File) { o(f).After = re }, false},
			change{"behind a number", func(f *api.File) { n(f).After = re }, true},
			change{"behind a number of base 16", func(f *api.File) { h(f).After = re }, true},
		)
	}
	mayBe(t, append(l, change{"behind no number an empty list", func(f *api.File) { a(f).After = api.Re{Sub: []api.Re{}} }, true}))
}

func TestMayOfWhatFollows(t *testing.T) {
	var l []change
	rules := []func(f *api.File) *api.Rule{n, q, a, h, o}
	kinds := []int{1, 2, 0, 0, 2}
	for i, of := range rules {
		for _, kind := range []int{math.MinInt, -1, 0, 1, 2, 3, 4, 1 << 32} {
			may := kind == kinds[i] || kind == 1 && kinds[i] == 0
			l = append(l, change{fmt.Sprint("rule ", i, " kind ", kind), func(f *api.File) { of(f).Next.Kind = kind }, may})
		}
		for _, mode := range []int{math.MinInt, -1, 0, 1, 2, 3, 4, 1 << 32, math.MaxInt} {
			l = append(l, change{fmt.Sprint("rule ", i, " to the mode ", mode), func(f *api.File) { of(f).Next.Mode = mode }, mode >= 0 && mode < 3})
		}
		for _, count := range []int{math.MinInt, -1 << 40, -1, 0, 1, 2, 1<<40 - 1, 1 << 40, 1<<40 + 1, 1 << 41, math.MaxInt} {
			may := count >= 0 && count <= 1<<40
			l = append(l,
				change{fmt.Sprint("rule ", i, " add ", count), func(f *api.File) { of(f).Next.Add = count }, count == 0 || may && kinds[i] == 1},
				change{fmt.Sprint("rule ", i, " max ", count), func(f *api.File) { of(f).Next.Max = count }, count == 0 || may && kinds[i] > 0},
			)
		}
		for _, delim := range []string{"", "a", "\x00", "\n\n", strings.Repeat("a", 63), strings.Repeat("\xff", 64), strings.Repeat("a", 65), strings.Repeat("a", 1<<20)} {
			may := delim == ""
			if i == 1 {
				may = delim != "" && len(delim) <= 64
			}
			l = append(l, change{fmt.Sprintf("rule %d delim %.9q", i, delim), func(f *api.File) { of(f).Next.Delim = delim }, may})
		}
		l = append(l,
			change{fmt.Sprint("rule ", i, " with its own"), func(f *api.File) { of(f).Next.Own = true }, i == 4},
			change{fmt.Sprint("rule ", i, " without its own"), func(f *api.File) { of(f).Next.Own = false }, i < 4},
		)
	}
	mayBe(t, append(l,
		change{"its own instead of a delimiter", func(f *api.File) { q(f).Next.Own, q(f).Next.Delim = true, "" }, true},
		change{"a delimiter instead of its own", func(f *api.File) { o(f).Next.Own, o(f).Next.Delim = false, "x" }, true},
		change{"a count without a number", func(f *api.File) { a(f).Next = api.Next{Kind: 1, Add: 1 << 40, Max: 1 << 40} }, true},
		change{"a delimiter behind a number", func(f *api.File) { n(f).Next = api.Next{Kind: 2, Max: 1 << 40, Delim: "x"} }, true},
		change{"a mode that is too few", func(f *api.File) { f.Modes = f.Modes[:2] }, false},
		change{"a mode that is none any more", func(f *api.File) { f.Modes = f.Modes[1:] }, true},
	))
}

// Files that may not be are told soon, however great they are.
func TestMayOfGreatFiles(t *testing.T) {
	ring := make([]api.Re, 2)
	ring[0], ring[1] = api.Re{Kind: api.ReAlt, Sub: ring}, api.Re{Kind: api.ReAlt, Sub: ring}
	doubled, deep := rx.Text("a"), rx.Text("a")
	for range 60 {
		doubled = api.Re{Kind: api.ReCat, Sub: []api.Re{doubled, doubled}}
	}
	for range 1 << 20 {
		deep = api.Re{Kind: api.ReRep, Sub: []api.Re{deep}, Max: 1}
	}
	var l []change
	for _, re := range []api.Re{ring[0], doubled, deep} {
		l = append(l,
			change{"a fragment", func(f *api.File) { f.Frags[1].Re = re }, false},
			change{"ahead of a number", func(f *api.File) { h(f).Before = re }, false},
			change{"behind a number", func(f *api.File) { h(f).After = re }, false},
			change{"behind no number", func(f *api.File) { o(f).After = re }, false},
		)
	}
	mayBe(t, append(l,
		change{"a million fragments", func(f *api.File) { f.Frags = make([]api.Frag, 1<<20) }, false},
		change{"a million modes", func(f *api.File) { f.Modes = make([]api.Mode, 1<<20) }, false},
		change{"a million rules", func(f *api.File) { f.Modes[2].Rules = make([]api.Rule, 1<<20) }, false},
	))
}

func TestMayAgainstModel(t *testing.T) {
	c := newChance(1)
	told := map[bool]int{}
	for range 10000 {
		f := c.file()
		if !rprint.May(f) {
			t.Fatalf("%+v may not be", f)
		}
		for range 1 + c.Intn(3) {
			f = c.changed(f)
			if len(f.Modes) == 0 {
				break
			}
		}
		want := mayModel(f)
		if got := rprint.May(f); got != want {
			t.Fatalf("%+v: %v", f, got)
		}
		told[want]++
	}
	if told[true] < 2000 || told[false] < 2000 {
		t.Error(told)
	}
}

// P14.1, Same

// leaves tells each field of a thing that isn't made of others, and each list.
func leaves(v reflect.Value, path string, tell func(path string, v reflect.Value)) {
	switch v.Kind() {
	case reflect.Struct:
		for i := range v.NumField() {
			leaves(v.Field(i), path+"."+v.Type().Field(i).Name, tell)
		}
		return
	case reflect.Slice, reflect.Array:
		for i := range v.Len() {
			leaves(v.Index(i), fmt.Sprintf("%s[%d]", path, i), tell)
		}
	}
	if v.Kind() != reflect.Array {
		tell(path, v)
	}
}

// others is, of a field's value, others that it may have instead.
func others(v reflect.Value) []reflect.Value {
	var l []reflect.Value
	add := func(x any) { l = append(l, reflect.ValueOf(x).Convert(v.Type())) }
	switch v.Kind() {
	case reflect.Bool:
		add(!v.Bool())
	case reflect.Int:
		for _, d := range []int64{-1, 1, 1 << 32, math.MinInt64} {
			add(v.Int() + d)
		}
	case reflect.Uint64:
		for _, d := range []uint64{1, 1 << 32, 1 << 63, math.MaxUint64} {
			add(v.Uint() + d)
		}
	case reflect.String:
		for _, s := range []string{v.String() + "a", v.String() + "\x00", strings.ToUpper(v.String()) + "A", "zz" + v.String()} {
			add(s)
		}
		if v.Len() > 0 {
			add(v.String()[1:])
			add("")
		}
	case reflect.Slice:
		more := reflect.Append(v.Slice3(0, v.Len(), v.Len()), reflect.Zero(v.Type().Elem()))
		l = append(l, more)
		if v.Len() > 0 {
			l = append(l, v.Slice(1, v.Len()), v.Slice(0, v.Len()-1), reflect.Zero(v.Type()), reflect.Append(more, v.Index(0)))
		}
		if v.Len() > 1 {
			turned := reflect.AppendSlice(reflect.MakeSlice(v.Type(), 0, 0), v)
			turned.Index(0).Set(v.Index(1))
			turned.Index(1).Set(v.Index(0))
			l = append(l, turned)
		}
	}
	return l
}

// Each field, changed, makes another file of it.
func TestSameOfEachField(t *testing.T) {
	f, fields := whole(), 0
	leaves(reflect.ValueOf(&f).Elem(), "f", func(path string, v reflect.Value) {
		was := reflect.New(v.Type()).Elem()
		was.Set(v)
		for _, x := range others(was) {
			v.Set(x)
			fields++
			if rprint.Same(f, whole()) || rprint.Same(whole(), f) {
				t.Errorf("%s: %v is told to be the same as %v", path, x, was)
			}
			if !rprint.Same(f, f) || !rprint.Same(f, copied(f)) || !rprint.Same(hollow(f), f) {
				t.Errorf("%s: %v isn't told to be the same as itself", path, x)
			}
			v.Set(was)
		}
	})
	if fields < 800 || !rprint.Same(f, whole()) {
		t.Error(fields)
	}
}

func TestSameOfEmptyLists(t *testing.T) {
	if !rprint.Same(api.File{}, api.File{Frags: []api.Frag{}, Modes: []api.Mode{}}) || !rprint.Same(hollow(api.File{}), api.File{}) {
		t.Error("nothing")
	}
	one := api.File{Modes: []api.Mode{{Name: "a", Limit: 1}}}
	if !rprint.Same(one, hollow(one)) || !rprint.Same(hollow(one), one) || rprint.Same(one, api.File{}) || rprint.Same(api.File{}, one) {
		t.Error("one mode")
	}
	if !rprint.Same(whole(), hollow(whole())) || !rprint.Same(hollow(whole()), whole()) {
		t.Error("the whole")
	}
}

// Files that may not be are held against each other, too.
func TestSameAgainstModel(t *testing.T) {
	c := newChance(2)
	told := map[bool]int{}
	for range 10000 {
		a := c.file()
		if c.Intn(2) == 0 {
			a = c.changed(a)
		}
		b := hollow(a)
		if len(b.Modes) > 0 && c.Intn(3) > 0 {
			b = c.changed(b)
		}
		want := sameModel(a, b)
		if rprint.Same(a, b) != want || rprint.Same(b, a) != want {
			t.Fatalf("%+v and %+v: %v", a, b, !want)
		}
		told[want]++
	}
	if told[true] < 2000 || told[false] < 2000 {
		t.Error(told)
	}
}

// P14.1, Print

func TestExample(t *testing.T) {
	f := api.File{Modes: []api.Mode{{Name: "a", End: true, Limit: 5, Rules: []api.Rule{{Name: "x", Before: rx.Text("y")}}}}}
	printed(t, "the example", f, "mode a limit 5 end\nrule x /y/ -> a\n", api.OK)
	printed(t, "nothing", api.File{}, "", api.ErrArg)
	printed(t, "the whole", whole(), wholeText, api.OK)
	printed(t, "the whole with other lists", hollow(whole()), wholeText, api.OK)
}

func TestPrintOfEachForm(t *testing.T) {
	shapes := map[string]api.Rule{
		"/y/":                            {Before: rx.Text("y")},
		"//":                             {},
		"/()*/":                          {Before: rx.Rep(api.Re{}, 0, -1)},
		"/()()/":                         {Before: rx.Cat(api.Re{}, api.Re{})},
		"/[]/":                           {Before: rx.Byte(api.Set{})},
		`/\//`:                           {Before: rx.Text("/")},
		`/ab\\\//`:                       {Before: rx.Text(`ab\/`)},
		`/[\/-0\\]/`:                     {Before: rx.Byte(octs.Of('/', '0', '\\'))},
		`/ \n\t\x00\xff/`:                {Before: rx.Text(" \n\t\x00\xff")},
		"/y/ dec 7 /z/":                  {Before: rx.Text("y"), Base: 10, Most: 7, After: rx.Text("z")},
		"/y/ hex 10 /z/":                 {Before: rx.Text("y"), Base: 16, Most: 10, After: rx.Text("z")},
		"// dec 0 //":                    {Base: 10},
		"// hex 0 //":                    {Base: 16},
		"// hex 9223372036854775807 /./": {Base: 16, Most: math.MaxInt64, After: rx.Byte(octs.Range(0, 255))},
		"/a|b/ dec 1000000 /(a|b)*/":     {Before: rx.Alt(rx.Text("a"), rx.Text("b")), Base: 10, Most: 1000000, After: rx.Rep(rx.Alt(rx.Text("a"), rx.Text("b")), 0, -1)},
	}
	nexts := map[string]api.Next{
		"":                                       {},
		"count 0 max 0 ":                         {Kind: api.NextCount},
		"count 3 max 80 ":                        {Kind: api.NextCount, Add: 3, Max: 80},
		"count 1099511627776 max 1099511627775 ": {Kind: api.NextCount, Add: 1 << 40, Max: 1<<40 - 1},
		`until "--" max 4 `:                      {Kind: api.NextUntil, Max: 4, Delim: "--"},
		`until " " max 0 `:                       {Kind: api.NextUntil, Delim: " "},
		`until "own" max 1099511627776 `:         {Kind: api.NextUntil, Max: 1 << 40, Delim: "own"},
		`until "\"\\\n\r\t\x00\xff /" max 10 `:   {Kind: api.NextUntil, Max: 10, Delim: "\"\\\n\r\t\x00\xff /"},
		"until own max 0 ":                       {Kind: api.NextUntil, Own: true},
		"until own max 1099511627776 ":           {Kind: api.NextUntil, Max: 1 << 40, Own: true},
	}
	for shape, rule := range shapes {
		for next, follows := range nexts {
			for place, mode := range []string{"a", "b9", "c"} {
				rule.Name = "r2"
				rule.Next = follows
				rule.Next.Mode = place
				f := api.File{Modes: []api.Mode{{Name: "a", Limit: 5}, {Name: "b9", Limit: 1, End: true, Rules: []api.Rule{rule}}, {Name: "c", Limit: 4096}}}
				want := "mode a limit 5\nmode b9 limit 1 end\nrule r2 " + shape + " " + next + "-> " + mode + "\nmode c limit 4096\n"
				printed(t, want, f, want, api.OK)
				f.Frags = []api.Frag{{Name: "f", Re: rule.Before}, {Name: "a", Re: rule.After}}
				if text, e := rprint.Print(f); e != api.OK || !strings.HasPrefix(text, "frag f /") || strings.Count(text, "\nfrag a /") != 1 || !strings.HasSuffix(text, "/\n"+want) {
					t.Errorf("%q, %d", text, e)
				}
			}
		}
	}
}

// A tree may have 400 bytes written, wherever it stands.
func TestPrintOfGreatTrees(t *testing.T) {
	row := func(n int) api.Re { return rx.Text(strings.Repeat("\x00", n/4) + strings.Repeat("a", n%4)) }
	setters := map[string]func(f *api.File, re api.Re){
		"a fragment":                func(f *api.File, re api.Re) { f.Frags[0].Re = re },
		"the last fragment":         func(f *api.File, re api.Re) { f.Frags[1].Re = re },
		"what is ahead of a number": func(f *api.File, re api.Re) { n(f).Before = re },
		"what is behind a number":   func(f *api.File, re api.Re) { n(f).After = re },
		"behind the last number":    func(f *api.File, re api.Re) { h(f).After = re },
		"a rule":                    func(f *api.File, re api.Re) { a(f).Before = re },
		"the last rule":             func(f *api.File, re api.Re) { o(f).Before = re },
	}
	for what, set := range setters {
		for _, size := range []int{4, 398, 399, 400, 401, 402, 404, 500, 1192} {
			f := whole()
			set(&f, row(size))
			text, e := rprint.Print(f)
			want := api.OK
			if size > 400 {
				want = api.ErrMany
			}
			if e != want || (e == api.OK) != strings.Contains(text, `/`+strings.Repeat(`\x00`, size/4)+strings.Repeat("a", size%4)+"/") || e != api.OK && text != "" {
				t.Errorf("%s of %d bytes: %q, %d", what, size, text, e)
			}
			// One that may not be is told ahead of one that is too long.
			f.Modes[2].Limit = 0
			printed(t, what, f, "", api.ErrArg)
		}
	}
}

// full is a file that has so many bytes written: of fragments, of the mode a, and of rules.
func full(size int, byRules bool) api.File {
	f := api.File{Modes: []api.Mode{{Name: "a", Limit: 5}}}
	left := size - len("mode a limit 5\n")
	for i := 0; left > 0; i++ {
		name := fmt.Sprintf("f%02d", i)
		frame := len("frag f00 //\n")
		if byRules {
			frame = len("rule f00 // -> a\n")
		}
		bytes := min(left, 300) - frame
		if rest := left - 300; rest > 0 && rest < 40 {
			bytes -= 40
		}
		re := rx.Text(strings.Repeat("a", bytes))
		if byRules {
			f.Modes[0].Rules = append(f.Modes[0].Rules, api.Rule{Name: name, Before: re})
		} else {
			f.Frags = append(f.Frags, api.Frag{Name: name, Re: re})
		}
		left -= bytes + frame
	}
	return f
}

func TestPrintOfGreatFiles(t *testing.T) {
	for _, byRules := range []bool{false, true} {
		for _, size := range []int{4000, 7990, 7998, 7999, 8000, 8001, 8002, 8010, 8400, 9000, 10000} {
			f := full(size, byRules)
			text, e := rprint.Print(f)
			switch {
			case !rprint.May(f):
				t.Fatal(size, "may not be")
			case size <= 8000 && (e != api.OK || len(text) != size):
				t.Error(size, e, len(text))
			case size > 8000 && (e != api.ErrMany || text != ""):
				t.Error(size, e, text)
			}
			if g, _, x := rules.Parse(text); size <= 8000 && (x != api.OK || !rprint.Same(f, g)) {
				t.Error(size, x)
			}
			f.Modes[0].Name = ""
			printed(t, "too many that may not be", f, "", api.ErrArg)
		}
	}
}

// The greatest files that may be are told soon.
func TestPrintOfTheGreatest(t *testing.T) {
	odd := api.Set{}
	for b := 1; b < 256; b += 2 {
		odd = octs.Any(odd, octs.Of(byte(b)))
	}
	l := make([]api.Re, 299)
	for i := range l {
		l[i] = rx.Byte(odd)
	}
	great := rx.Cat(l...)
	var f api.File
	for i := range 40 {
		f.Frags = append(f.Frags, api.Frag{Name: fmt.Sprint("f", i), Re: great})
	}
	for i := range 16 {
		m := api.Mode{Name: fmt.Sprint("m", i), Limit: 1}
		for k := range 40 {
			m.Rules = append(m.Rules, api.Rule{Name: fmt.Sprint("r", k), Before: great, Base: 10, After: great})
		}
		f.Modes = append(f.Modes, m)
	}
	if !rprint.May(f) || !rprint.Same(f, copied(f)) {
		t.Error("may not be, or isn't itself")
	}
	printed(t, "the greatest", f, "", api.ErrMany)
	f.Modes[15].Rules[39].After.Sub[298].Kind = 9
	printed(t, "the greatest that may not be", f, "", api.ErrArg)
}

func TestPrintAgainstModel(t *testing.T) {
	c := newChance(3)
	told := map[api.Errno]int{}
	for range 4000 {
		f := c.file()
		if c.Intn(6) == 0 {
			f = c.greatFile()
		}
		if c.Intn(4) == 0 {
			f = c.changed(f)
		}
		want, e := printModel(f)
		if text, x := rprint.Print(f); text != want || x != e {
			t.Fatalf("%+v: %q, %d, want %q, %d", f, text, x, want, e)
		}
		told[e]++
	}
	if told[api.OK] < 2000 || told[api.ErrArg] < 300 || told[api.ErrMany] < 300 {
		t.Error(told)
	}
}

// P14.2

func TestQuoteByHand(t *testing.T) {
	for s, want := range map[string]string{
		"": `""`, "a": `"a"`, `"`: `"\""`, `\`: `"\\"`, `\"`: `"\\\""`, `\n`: `"\\n"`, "\n": `"\n"`, "\r": `"\r"`, "\t": `"\t"`, "\r\n": `"\r\n"`,
		" ~": `" ~"`, "\x1f\x7f": `"\x1f\x7f"`, "\x00": `"\x00"`, "\xff": `"\xff"`, "\xab\xCD": `"\xab\xcd"`, "\b\v\f\a": `"\x08\x0b\x0c\x07"`, "é": `"\xc3\xa9"`, "�": `"\xef\xbf\xbd"`,
		"/'`|*#%": "\"/'`|*#%\"", "a\x000": `"a\x000"`, "\x80\x9f\xa0": `"\x80\x9f\xa0"`,
		"a\"\\\n\r\t\x00\xff": `"a\"\\\n\r\t\x00\xff"`,
	} {
		if got := rprint.Quote(s); got != want {
			t.Errorf("%q: %s", s, got)
		}
	}
}

// quotes asks that s is quoted as the chapter says, and that layer 13 tells it again.
func quotes(t *testing.T, s string) {
	t.Helper()
	got := rprint.Quote(s)
	if got != quoteModel(s) {
		t.Fatalf("%q: %s", s, got)
	}
	for _, more := range []string{"", `"`, "x", "\n"} {
		if text, at, e := rules.Text(got + more); text != s || at != len(got) || e != api.OK {
			t.Fatalf("%q: %q, %d, %d", s, text, at, e)
		}
	}
}

func TestQuoteOfEachByte(t *testing.T) {
	for b := range 256 {
		for d := range 256 {
			quotes(t, string([]byte{byte(b), byte(d)}))
		}
		quotes(t, string([]byte{byte(b)}))
	}
	c := newChance(4)
	for range 5000 {
		quotes(t, c.some(c.Intn(100)))
	}
}

func TestQuoteOfAnyLength(t *testing.T) {
	for _, n := range []int{64, 65, 400, 401, 4096, 8000, 8001, 1 << 22} {
		for s, one := range map[string]string{"a": "a", "\x00": `\x00`, `"`: `\"`} {
			if got := rprint.Quote(strings.Repeat(s, n)); got != `"`+strings.Repeat(one, n)+`"` {
				t.Error(n, one, len(got))
			}
		}
	}
}

// P14.3

func TestWhatIsWrittenIsReadAsItWas(t *testing.T) {
	c := newChance(5)
	read := 0
	for range 5000 {
		f := c.file()
		if c.Intn(20) == 0 {
			f = c.greatFile()
		}
		text, e := rprint.Print(f)
		if e != api.OK {
			continue
		}
		read++
		g, at, x := rules.Parse(text)
		if x != api.OK || !rprint.Same(f, g) || !sameModel(f, g) {
			t.Fatalf("%q: %d, %d", text, at, x)
		}
		if again, x := rprint.Print(g); again != text || x != api.OK {
			t.Fatalf("%q, then %q, %d", text, again, x)
		}
	}
	if read < 3000 {
		t.Error("only so many files were written:", read)
	}
}

// ruleText is a rule's line, which may say any mode of few, and any fragment.
func (c chance) ruleText(i int) string {
	tree := func() string {
		return "/" + of(c, "", "a", "ab*", "[0-9]+", `\/`, `\\`, `\x41\x0D`, "(a|b){2}", "((a))", ".", "[^ ]", "[a-cb]", "a b", "()", "<f>", "<f><g>*", "<g>|x", "[]", "a{0}", "(|a)", "a{3,3}", "[^]") + "/"
	}
	number := func() string { return of(c, "0", "1", "10", "4096", "1099511627776") }
	text := fmt.Sprintf("rule r%d %s ", i, tree())
	if c.Intn(2) == 0 {
		text += of(c, "dec ", "hex ") + of(c, number(), "9223372036854775807") + " " + tree() + " "
	}
	switch c.Intn(4) {
	case 0:
		text += "count " + number() + " max " + number() + " "
	case 1:
		text += "until own max " + number() + " "
	case 2:
		text += `until "` + of(c, "a", `\x41`, `\xfF`, `\"`, `\\`, "/", strings.Repeat(`\n`, 64), " -> a") + `" max ` + number() + " "
	}
	return text + "-> " + of(c, "a", "b", "c")
}

func TestWhatWasReadMayBe(t *testing.T) {
	c := newChance(6)
	read := 0
	for range 6000 {
		l := []string{"frag f /" + of(c, "", "a", "x|y", "()", "[0-9]*") + "/", "#", "frag g /(<f>|z)/"}
		for _, mode := range []string{"a", "b", "c"} {
			l = append(l, "mode "+mode+" limit "+of(c, "1", "9", "4096")+of(c, "", " end"), "")
			for i := range c.Intn(5) {
				l = append(l, c.ruleText(i))
			}
		}
		text := strings.Join(l, "\n")
		f, at, e := rules.Parse(text)
		if e != api.OK {
			t.Fatalf("%q: %d, %d", text, at, e)
		}
		if !rprint.May(f) {
			t.Fatalf("%q may not be", text)
		}
		again, e := rprint.Print(f)
		g, at, x := rules.Parse(again)
		if e != api.OK || x != api.OK || !rprint.Same(f, g) {
			t.Fatalf("%q: %q, %d; %d, %d", text, again, e, at, x)
		}
		read++
	}
	if read != 6000 {
		t.Error(read)
	}
	// Those with as much in them as may be, too.
	var frags, of string
	for i := range 40 {
		frags += fmt.Sprintf("frag f%d /a/\n", i)
		of += fmt.Sprintf("rule r%d /a/ -> m0\n", i)
	}
	text := frags
	for i := range 16 {
		text += fmt.Sprintf("mode m%d limit 4096\n", i)
	}
	f, _, e := rules.Parse(text + of)
	if e != api.OK || !rprint.May(f) {
		t.Error(e)
	}
	printed(t, "all that may be", f, text+of, api.OK)
}

// What is read of fragments is written without them, as the chapter says nothing of their names in trees.
func TestFragmentsAreWrittenOut(t *testing.T) {
	f, _, _ := rules.Parse("# x\n\nfrag d /[0-9]/\nfrag n /<d>+|\\x2d/\nmode a limit 5\nrule x /<n>:/ -> a")
	printed(t, "fragments", f, "frag d /[0-9]/\nfrag n /[0-9]+|-/\nmode a limit 5\nrule x /([0-9]+|-):/ -> a\n", api.OK)
	// A tree that is read of few bytes may have too many written: it is one that may be, but isn't written.
	short := strings.Repeat("<x>", 25)
	f, _, e := rules.Parse("frag x /[\\x00\\x02\\x04\\x06]/\nmode a limit 5\nrule x /" + short + "/ -> a")
	if e != api.OK || !rprint.May(f) {
		t.Fatal(e)
	}
	if _, e := rxprint.Print(f.Modes[0].Rules[0].Before); e != api.ErrMany {
		t.Fatal(e)
	}
	printed(t, "a great tree of fragments", f, "", api.ErrMany)
}

// Rules that hold everywhere

func TestNothingIsChanged(t *testing.T) {
	c := newChance(7)
	for range 300 {
		f := c.file()
		if c.Intn(2) == 0 {
			f = c.changed(f)
		}
		f = hollow(f)
		before, rooms := copied(f), wholeRooms(f)
		rprint.May(f)
		rprint.Print(f)
		rprint.Same(f, hollow(f))
		rprint.Same(hollow(f), f)
		if !reflect.DeepEqual(copied(f), before) || wholeRooms(f) != rooms {
			t.Fatalf("%+v is changed", before)
		}
	}
}

// What a call answers doesn't hang on the calls ahead of it.
func TestKeepsNothing(t *testing.T) {
	bad := whole()
	bad.Modes[1].Name = "a"
	long := whole()
	long.Frags[0].Re = rx.Text(strings.Repeat("\x00", 101))
	for range 3 {
		printed(t, "the whole", whole(), wholeText, api.OK)
		printed(t, "one that may not be", bad, "", api.ErrArg)
		printed(t, "one that is too long", long, "", api.ErrMany)
		if !rprint.May(whole()) || rprint.May(bad) || !rprint.May(long) || rprint.Same(bad, long) || rprint.Quote("\n") != `"\n"` {
			t.Error("other answers")
		}
	}
}
