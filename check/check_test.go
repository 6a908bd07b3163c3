package check_test

import (
	"fmt"
	"math"
	"reflect"
	"slices"
	"strings"
	"testing"

	"hackle/api"
	"hackle/check"
	"hackle/lang"
	"hackle/octs"
	"hackle/rprint"
	"hackle/rx"
	"hackle/rxprint"
	"hackle/table"
)

// shown is the faults as a failed test tells them, and as the tests' tables have them: mode, rule, error, of each.
func shown(l []check.Fault) string {
	var all []string
	for _, x := range l {
		all = append(all, fmt.Sprint(x.Mode, x.Rule, int(x.E)))
	}
	return strings.Join(all, ", ")
}

// faulty asks that the file has these faults.
func faulty(t *testing.T, what string, f api.File, want string) {
	t.Helper()
	if !rprint.May(f) {
		t.Fatal(what, "may not be")
	}
	if got := shown(check.Faults(f)); got != want {
		t.Errorf("%s: %s, want %s", what, got, want)
	}
	if got := shown(faultsModel(f)); got != want {
		t.Errorf("%s: the model says %s", what, got)
	}
}

// alone is a file of one mode with a rule.
func alone(x api.Rule) api.File {
	x.Name = "x"
	return api.File{Modes: []api.Mode{{Name: "a", Limit: 5, Rules: []api.Rule{x}}}}
}

func chars(s string) api.Re {
	return rx.Byte(octs.Of([]byte(s)...))
}

// P15.1, Whole

func TestWholeByHand(t *testing.T) {
	a, b := rx.Text("y:"), rx.Alt(rx.Text(";"), api.Re{})
	number := func(digits string) api.Re {
		return api.Re{Kind: api.ReRep, Sub: []api.Re{{Kind: api.ReByte, Set: octs.Of([]byte(digits)...)}}, Min: 1, Max: -1}
	}
	cat := func(l ...api.Re) api.Re { return api.Re{Kind: api.ReCat, Sub: l} }
	for _, x := range []struct {
		rule api.Rule
		want api.Re
	}{
		{api.Rule{}, api.Re{}},
		{api.Rule{Before: a}, a},
		{api.Rule{Before: a, After: b}, a},
		{api.Rule{Before: a, Base: 10, After: b}, cat(a, number(dec), b)},
		{api.Rule{Before: a, Base: 16, After: b}, cat(a, number(hex), b)},
		{api.Rule{Base: 10}, cat(api.Re{}, number(dec), api.Re{})},
		{api.Rule{Base: 16}, cat(api.Re{}, number(hex), api.Re{})},
		{api.Rule{Before: rx.Text("1"), Base: 10, After: rx.Text("2")}, cat(rx.Text("1"), number(dec), rx.Text("2"))},
		{api.Rule{Name: "n", Before: a, Base: 10, Most: 7, After: b, Next: api.Next{Kind: 1, Mode: 3, Add: 1, Max: 2}}, cat(a, number(dec), b)},
		{api.Rule{Name: "?", Before: a, Most: math.MaxUint64, Next: api.Next{Kind: 9, Mode: -1, Own: true, Delim: "x"}}, a},
	} {
		if got := check.Whole(x.rule); !rx.Same(got, x.want) {
			t.Errorf("%+v: %+v", x.rule, got)
		}
	}
	for base, want := range map[int]string{0: "y:", 10: "(y:)[0-9]+(;|())", 16: "(y:)[0-9A-Fa-f]+(;|())"} {
		if s, e := rxprint.Print(check.Whole(api.Rule{Before: a, Base: base, After: b})); s != want || e != api.OK {
			t.Errorf("%d: %q, %d", base, s, e)
		}
	}
}

// Of another base than 10 and 16 it is what is ahead of the number.
func TestWholeOfEachBase(t *testing.T) {
	bases := []int{math.MinInt, math.MaxInt, -10, -16, 10 + 1<<32, 16 + 1<<32, 10 << 8, 255, 256 + 10}
	for base := -3; base < 70; base++ {
		bases = append(bases, base)
	}
	for _, base := range bases {
		x := api.Rule{Before: rx.Text("ab"), Base: base, After: rx.Text("c")}
		got := check.Whole(x)
		if !rx.Same(got, wholeModel(x)) || lang.Takes(got, "ab") == (base == 10 || base == 16) {
			t.Errorf("%d: %+v", base, got)
		}
	}
}

// Trees that may not be stand in the whole as they are.
func TestWholeOfAnyTrees(t *testing.T) {
	ring := []api.Re{rx.Text("a")}
	wild := []api.Re{
		{Kind: -1}, {Kind: 5}, {Kind: math.MaxInt}, {Max: 1}, {Sub: []api.Re{}}, {Sub: ring}, {Kind: api.ReCat, Sub: ring}, {Kind: api.ReRep, Min: -9, Max: math.MaxInt},
		{Kind: api.ReByte, Set: octs.Of('0'), Sub: []api.Re{{Kind: 9}, {Kind: 8}}}, text("a", 1000), deep(1000), rx.Rep(rx.Text("a"), 5, 4),
	}
	for _, before := range wild {
		for _, after := range wild {
			for _, base := range []int{0, 10, 16, 7} {
				x := api.Rule{Before: before, Base: base, After: after}
				if got := check.Whole(x); !rx.Same(got, wholeModel(x)) {
					t.Errorf("%d, %.200v, %.200v", base, before, after)
				}
			}
		}
	}
}

// scribbled changes all of a tree, down to the last node, and its spare room.
func scribbled(re api.Re) {
	for i := range re.Sub {
		scribbled(re.Sub[i])
		re.Sub[i] = api.Re{Kind: 77}
	}
	for i, room := range re.Sub[:cap(re.Sub)] {
		if room.Kind != 77 {
			re.Sub[:cap(re.Sub)][i] = api.Re{Kind: 66}
		}
	}
}

func TestWholeIsNewMemory(t *testing.T) {
	c := newChance(1)
	for range 500 {
		x := api.Rule{Before: hollowTree(c.tree(5)), Base: of(c, 0, 7, 10, 16), After: hollowTree(c.tree(5))}
		if c.Intn(3) == 0 {
			x.After = x.Before
		}
		want := wholeModel(x)
		before := fmt.Sprint(treeRooms(x.Before), treeRooms(x.After))
		one, two := check.Whole(x), check.Whole(x)
		scribbled(one)
		if !rx.Same(two, want) || fmt.Sprint(treeRooms(x.Before), treeRooms(x.After)) != before {
			t.Fatalf("%+v shares memory", x)
		}
		// What is done to one part doesn't touch the others.
		if x.Base == 10 || x.Base == 16 {
			scribbled(two.Sub[0])
			if !rx.Same(two.Sub[1], want.Sub[1]) || !rx.Same(two.Sub[2], want.Sub[2]) {
				t.Fatalf("%+v: parts share memory", x)
			}
		}
		three := check.Whole(x)
		scribbled(x.Before)
		scribbled(x.After)
		if !rx.Same(three, want) {
			t.Fatalf("%+v is kept", x)
		}
	}
}

// P15.1, Faults

func TestExamples(t *testing.T) {
	faulty(t, "the first", read(t, "mode a limit 5", "rule x /x1/ dec 9 // -> a"), "0 0 8")
	f := read(t, "mode a limit 5", "rule x /[a-z]/ -> a", "rule y /a/ -> a")
	faulty(t, "the second", f, "")
	if l := check.Idle(f); !slices.Equal(l, [][2]int{{0, 1}}) {
		t.Error(l)
	}
	faulty(t, "one that takes the empty text", read(t, "mode a limit 5", "rule x /y*/ -> a"), "0 0 7")
}

func TestFaultsOfFilesThatMayNotBe(t *testing.T) {
	good := func() api.File {
		return read(t, "mode a limit 5", "rule x /y/ -> b", "mode b limit 5", "rule x /()/ -> a")
	}
	faulty(t, "good", good(), "1 0 7")
	for what, do := range map[string]func(f *api.File){
		"nothing":          func(f *api.File) { *f = api.File{} },
		"no mode":          func(f *api.File) { f.Modes = []api.Mode{} },
		"a limit":          func(f *api.File) { f.Modes[1].Limit = 0 },
		"a great limit":    func(f *api.File) { f.Modes[0].Limit = 4097 },
		"a name":           func(f *api.File) { f.Modes[0].Name = "" },
		"a name twice":     func(f *api.File) { f.Modes[1].Name = "a" },
		"a rule's name":    func(f *api.File) { f.Modes[1].Rules[0].Name = "X" },
		"a tree":           func(f *api.File) { f.Modes[1].Rules[0].Before.Kind = 5 },
		"a great tree":     func(f *api.File) { f.Modes[0].Rules[0].Before = text("a", 300) },
		"a tree behind":    func(f *api.File) { f.Modes[0].Rules[0].After = rx.Text("a") },
		"a base":           func(f *api.File) { f.Modes[0].Rules[0].Base = 8 },
		"a number":         func(f *api.File) { f.Modes[0].Rules[0].Most = 1 },
		"a kind":           func(f *api.File) { f.Modes[0].Rules[0].Next.Kind = 3 },
		"a mode":           func(f *api.File) { f.Modes[1].Rules[0].Next.Mode = 2 },
		"a mode below":     func(f *api.File) { f.Modes[1].Rules[0].Next.Mode = -1 },
		"a count":          func(f *api.File) { f.Modes[0].Rules[0].Next.Max = 1 },
		"no delimiter":     func(f *api.File) { f.Modes[0].Rules[0].Next.Kind = 2 },
		"a fragment":       func(f *api.File) { f.Frags = []api.Frag{{Name: "f", Re: api.Re{Kind: 9}}} },
		"many modes":       func(f *api.File) { f.Modes = append(f.Modes, make([]api.Mode, 20)...) },
		"a fragment twice": func(f *api.File) { f.Frags = []api.Frag{{Name: "f"}, {Name: "f"}} },
	} {
		f := good()
		do(&f)
		if l := check.Faults(f); !slices.Equal(l, []check.Fault{{Mode: -1, Rule: -1, E: api.ErrArg}}) {
			t.Errorf("%s: %v", what, l)
		}
		if l := check.Idle(f); len(l) != 0 {
			t.Errorf("%s: %v", what, l)
		}
		if l := check.Reached(f); len(l) != 0 {
			t.Errorf("%s: %v", what, l)
		}
	}
}

// A whole may have 300 nodes, three of which a number takes, and be 30 deep, of which a number takes one.
func TestFaultsOfGreatWholes(t *testing.T) {
	rows := func(x, y int) api.Rule { // of x and y nodes
		return api.Rule{Before: text("x", x-1), Base: 10, After: text("x", y-1)}
	}
	for what, x := range map[string]struct {
		rule api.Rule
		want string
	}{
		"300 nodes":                       {api.Rule{Before: text("x", 299)}, ""},
		"30 deep":                         {api.Rule{Before: deep(30)}, ""},
		"296 nodes ahead of a number":     {rows(296, 1), ""},
		"297 nodes ahead of a number":     {rows(297, 1), "0 0 4"},
		"300 nodes ahead of a number":     {rows(300, 1), "0 0 4"},
		"296 nodes behind a number":       {rows(1, 296), ""},
		"297 nodes behind a number":       {rows(1, 297), "0 0 4"},
		"297 nodes about a number":        {rows(150, 147), ""},
		"298 nodes about a number":        {rows(150, 148), "0 0 4"},
		"600 nodes about a number":        {rows(300, 300), "0 0 4"},
		"29 deep ahead of a number":       {api.Rule{Before: deep(29), Base: 10}, ""},
		"30 deep ahead of a number":       {api.Rule{Before: deep(30), Base: 10}, "0 0 4"},
		"29 deep behind a number":         {api.Rule{Base: 16, After: deep(29)}, ""},
		"30 deep behind a number":         {api.Rule{Base: 16, After: deep(30)}, "0 0 4"},
		"29 deep about a number":          {api.Rule{Before: deep(29), Base: 16, After: deep(29)}, ""},
		"one of 30 deep":                  {api.Rule{Before: deep(29), Base: 16, After: deep(30)}, "0 0 4"},
		"300 nodes of hexadecimal":        {api.Rule{Before: text("x", 295), Base: 16, After: api.Re{}}, ""},
		"301 nodes of hexadecimal":        {api.Rule{Before: text("x", 296), Base: 16, After: api.Re{}}, "0 0 4"},
		"300 nodes that have the empty":   {api.Rule{Before: rx.Alt(text("x", 297), api.Re{})}, "0 0 7"},
		"too many, ahead of no text":      {api.Rule{Before: rx.Cat(text("x", 297), chars("")), Base: 10}, "0 0 4"},
		"too many, ahead of a digit":      {api.Rule{Before: text("1", 299), Base: 10}, "0 0 4"},
		"too many, ahead of a digit more": {api.Rule{Before: text("x", 299), Base: 10, After: rx.Text("1")}, "0 0 4"},
	} {
		faulty(t, what, alone(x.rule), x.want)
	}
	own := alone(api.Rule{Before: deep(30), Base: 10, Next: api.Next{Kind: 2, Own: true}})
	own.Modes[0].Limit = 65
	faulty(t, "too many, ahead of a great limit", own, "0 0 4")
}

func TestFaultsOfEmptyWholes(t *testing.T) {
	for re, want := range map[string]string{
		"": "0 0 7", "()": "0 0 7", "[]": "0 0 7", "y*": "0 0 7", "y?": "0 0 7", "y{0}": "0 0 7", "y{0,3}": "0 0 7", "y[]": "0 0 7", "[]*": "0 0 7", "[]+": "0 0 7", "y|": "0 0 7",
		"y|()": "0 0 7", "(y|z*)(x?)": "0 0 7", "()()": "0 0 7", "[]|[]": "0 0 7", "[]{2}": "0 0 7",
		"y": "", "y+": "", "y|[]": "", "y[]*": "", "y{1}": "", "(y|)z": "", "[]|z": "", ".": "", "y*z": "",
	} {
		faulty(t, re, read(t, "mode a limit 5", "rule x /"+re+"/ -> a"), want)
	}
	// With a number there is always a byte, if there is any text.
	for re, want := range map[string]string{
		"// dec 9 //": "", "// hex 9 //": "", "/y*/ dec 9 /y*/": "", "/[]*/ dec 9 /()/": "",
		"/[]/ dec 9 //": "0 0 7", "// dec 9 /[]/": "0 0 7", "/x/ hex 9 /y[]/": "0 0 7", "/y[]/ hex 9 /x/": "0 0 7",
		// No text is told ahead of a digit that stands beside the number.
		"/1[]/ dec 9 //": "0 0 7", "/1/ dec 9 /[]/": "0 0 7", "/[]/ dec 9 /1/": "0 0 7", "/[]/ hex 9 /a/": "0 0 7",
	} {
		faulty(t, re, read(t, "mode a limit 5", "rule x "+re+" -> a"), want)
	}
	// It is told ahead of what follows, too.
	faulty(t, "count", read(t, "mode a limit 65", "rule x /y*/ count 0 max 1 -> a", "rule y /[]/ until own max 1 -> a"), "0 0 7, 0 1 7")
}

// All bytes are asked for, ahead of a number and behind it.
func TestFaultsOfDigits(t *testing.T) {
	for base, digits := range map[int]string{10: dec, 16: hex} {
		for b := range 256 {
			one := rx.Byte(octs.Of(byte(b)))
			want := ""
			if strings.Contains(digits, string(rune(b))) {
				want = "0 0 8"
			}
			for what, x := range map[string]api.Rule{
				"ahead":              {Before: one},
				"far ahead":          {Before: rx.Cat(one, rx.Text("xyz"))},
				"perhaps ahead":      {Before: rx.Rep(one, 0, 1)},
				"in a set":           {Before: rx.Alt(rx.Text("z"), rx.Byte(octs.Of('x', byte(b), '~')))},
				"never ahead":        {Before: rx.Rep(one, 0, 0)},
				"in no text":         {Before: rx.Alt(rx.Text("x"), rx.Cat(one, chars("")))},
				"behind":             {After: one},
				"behind, with more":  {After: rx.Cat(one, rx.Text("x"))},
				"perhaps behind":     {After: rx.Cat(rx.Rep(rx.Text("x"), 0, -1), one)},
				"behind, in a set":   {After: rx.Rep(rx.Byte(octs.Of('x', byte(b), '~')), 0, 1)},
				"behind, beside":     {After: rx.Alt(rx.Text("z"), one, api.Re{})},
				"ahead, and behind":  {Before: one, After: one},
				"behind, of a count": {After: one, Next: api.Next{Kind: 1}},
			} {
				x.Base = base
				faulty(t, fmt.Sprint(what, base, b), alone(x), want)
			}
			for what, x := range map[string]api.Rule{
				"further behind":      {After: rx.Cat(rx.Text("x"), one)},
				"never behind":        {After: rx.Rep(one, 0, 0)},
				"behind, in no text":  {After: rx.Alt(rx.Text("x"), rx.Cat(one, chars("")))},
				"behind one at least": {After: rx.Cat(rx.Rep(rx.Text("x"), 1, -1), rx.Rep(one, 0, -1))},
			} {
				x.Base = base
				faulty(t, fmt.Sprint(what, base, b), alone(x), "")
			}
		}
	}
	faulty(t, "letters of decimal", read(t, "mode a limit 5", "rule x /[a-fA-F]+/ dec 9 /[a-fA-F]/ -> a"), "")
	faulty(t, "what is no digit", read(t, "mode a limit 5", "rule x /[^0-9A-Fa-f]+/ hex 9 /[^0-9A-Fa-f]/ -> a"), "")
	faulty(t, "no number", read(t, "mode a limit 5", "rule x /[0-9a-f]+/ -> a"), "")
}

func TestFaultsOfWhatFollows(t *testing.T) {
	for _, x := range []struct {
		rule, limit, want string
	}{
		{"/y/ count 0 max 9", "5", "0 0 9"}, {"/y/ count 7 max 0", "5", "0 0 9"}, {"/y7/ count 7 max 9", "5", "0 0 9"},
		{"/y/ dec 9 // count 0 max 9", "5", ""}, {"/y/ hex 9 // count 7 max 9", "5", ""}, {"// dec 0 // count 0 max 0", "4096", ""},
		{"/y/ until own max 9", "1", ""}, {"/y/ until own max 9", "63", ""}, {"/y/ until own max 9", "64", ""},
		{"/y/ until own max 9", "65", "0 0 10"}, {"/y/ until own max 0", "66", "0 0 10"}, {"/y/ dec 9 // until own max 9", "4096", "0 0 10"}, {"/y/ hex 9 // until own max 9", "64", ""},
		{"/y/ until \"own\" max 9", "65", ""}, {"/y/ until \"own\" max 9", "4096", ""}, {"/y/", "4096", ""}, {"/y/ dec 9 //", "4096", ""}, {"/y/ dec 9 // count 0 max 9", "4096", ""},
		// A digit beside the number is told ahead of a limit that is too great.
		{"/1/ dec 9 // until own max 9", "65", "0 0 8"}, {"/y/ hex 9 /b/ until own max 9", "65", "0 0 8"}, {"/1/ dec 9 // count 0 max 9", "65", "0 0 8"},
	} {
		faulty(t, x.rule+" "+x.limit, read(t, "mode a limit "+x.limit, "rule x "+x.rule+" -> a"), x.want)
	}
}

// Each rule has its fault, and each mode those of its rules, or its own.
func TestFaultsInOrder(t *testing.T) {
	f := read(t, "mode a limit 65", "rule a /y/ -> c", "rule b /y/ until own max 1 -> a", "rule c /y/ count 0 max 1 -> a", "rule d // -> b", "rule e /y/ -> a", "rule f /1/ dec 2 // -> a",
		"mode b limit 64", "mode c limit 64", "rule b /y/ until own max 1 -> a", "mode d limit 1", "mode e limit 5", "rule a /[]/ -> a", "mode f limit 5", "rule a /(x|y)*x(x|y){9}/ -> a", "mode g limit 5")
	f.Modes[0].Rules[4] = api.Rule{Name: "e", Before: deep(30), Base: 10, Next: api.Next{Kind: 1}}
	faulty(t, "many faults", f, "0 1 10, 0 2 9, 0 3 7, 0 4 4, 0 5 8, 1 -1 7, 3 -1 7, 4 0 7, 5 -1 4, 6 -1 7")
	for at, m := range f.Modes {
		one := api.File{Modes: []api.Mode{m}}
		for i := range m.Rules {
			one.Modes[0].Rules[i].Next.Mode = 0
		}
		want := modeModel(m, 0)
		if got := check.Faults(one); !slices.Equal(got, want) {
			t.Errorf("%d: %s", at, shown(got))
		}
	}
	// The greatest numbers of modes and rules.
	var g api.File
	var want []string
	for at := range 16 {
		m := api.Mode{Name: fmt.Sprint("m", at), Limit: 5}
		for i := range 40 {
			m.Rules = append(m.Rules, api.Rule{Name: fmt.Sprint("r", i)})
			want = append(want, fmt.Sprint(at, i, 7))
		}
		g.Modes = append(g.Modes, m)
	}
	faulty(t, "640 faults", g, strings.Join(want, ", "))
}

func TestFaultsOfModes(t *testing.T) {
	// A row of n bytes, of as few nodes as that takes.
	row := func(n int) api.Re { return rx.Rep(rx.Text("x"), n, n) }
	mode := func(l ...api.Re) api.File {
		f := api.File{Modes: []api.Mode{{Name: "a", Limit: 5}}}
		for i, re := range l {
			f.Modes[0].Rules = append(f.Modes[0].Rules, api.Rule{Name: fmt.Sprint("r", i), Before: re})
		}
		return f
	}
	with := func(f api.File, x api.Rule) api.File {
		x.Name = "more"
		f.Modes[0].Rules = append(f.Modes[0].Rules, x)
		return f
	}
	fifty := slices.Repeat([]api.Re{row(50)}, 40)
	wide := rx.Rep(row(50), 10, 10)
	faulty(t, "no rule", mode(), "0 -1 7")
	faulty(t, "40 rules", mode(fifty...), "")
	faulty(t, "2000 places", mode(wide, wide, wide, wide), "")
	faulty(t, "2001 places", mode(wide, wide, wide, wide, row(1)), "0 -1 4")
	faulty(t, "2000 places by a number", with(mode(wide, wide, wide, rx.Rep(row(50), 9, 9), row(49)), api.Rule{Base: 10}), "")
	faulty(t, "2001 places by a number", with(mode(wide, wide, wide, rx.Rep(row(50), 9, 9), row(50)), api.Rule{Base: 10}), "0 -1 4")
	faulty(t, "2001 places by one that has a text ahead", with(mode(wide, wide, wide, rx.Rep(row(50), 9, 9), row(49)), api.Rule{Before: rx.Text("x"), Base: 16}), "0 -1 4")
	faulty(t, "600 states", mode(rx.Cat(rx.Rep(row(40), 14, 14), row(39))), "")
	faulty(t, "601 states", mode(rx.Rep(row(40), 15, 15)), "0 -1 4")
	faulty(t, "states by subsets", read(t, "mode a limit 5", "rule x /(a|b)*a(a|b){9}/ -> a"), "0 -1 4")
	// They are told of a mode whose rules have no fault.
	bad := mode(rx.Rep(row(40), 15, 15))
	faulty(t, "a rule's fault ahead", with(bad, api.Rule{}), "0 1 7")
	faulty(t, "a rule's fault behind", mode(api.Re{}, rx.Rep(row(40), 15, 15)), "0 0 7")
	faulty(t, "the fault of another mode", api.File{Modes: []api.Mode{{Name: "b", Limit: 5}, mode(rx.Rep(row(40), 15, 15)).Modes[0], {Name: "c", Limit: 9, Rules: []api.Rule{{Name: "x"}}}}}, "0 -1 7, 1 -1 4, 2 0 7")
	if _, e := table.Make(slices.Repeat([]api.Re{row(1)}, 40)); e != api.OK {
		t.Error(e)
	}
}

func TestFaultsAgainstModel(t *testing.T) {
	c := newChance(2)
	told := map[api.Errno]int{}
	for range 6000 {
		f := c.file()
		got, want := check.Faults(f), faultsModel(f)
		if !slices.Equal(got, want) {
			t.Fatalf("%+v: %s, want %s", f, shown(got), shown(want))
		}
		for _, x := range got {
			told[x.E]++
		}
		if len(got) == 0 {
			told[api.OK]++
		}
	}
	for _, e := range []api.Errno{api.OK, api.ErrMany, api.ErrEmpty, api.ErrSplit, api.ErrDigit, api.ErrRange} {
		if told[e] < 100 {
			t.Error("too few of", e, told)
		}
	}
}

// P15.2

func TestReachedByHand(t *testing.T) {
	yes, no := true, false
	for _, x := range []struct {
		text string
		want []bool
	}{
		{"mode a limit 5", []bool{yes}},
		{"mode a limit 5\nrule x /x/ -> a", []bool{yes}},
		{"mode a limit 5\nmode b limit 5\nrule x /x/ -> a", []bool{yes, no}},
		{"mode a limit 5\nrule x /x/ -> b\nmode b limit 5", []bool{yes, yes}},
		{"mode a limit 5\nrule x /x/ -> c\nmode b limit 5\nrule x /x/ -> b\nrule y /y/ -> a\nmode c limit 5", []bool{yes, no, yes}},
		{"mode a limit 5\nrule x /x/ -> c\nmode b limit 5\nmode c limit 5\nrule x /x/ -> b", []bool{yes, yes, yes}},
		{"mode a limit 5\nrule x /x/ -> a\nmode b limit 5\nrule x /x/ -> c\nmode c limit 5\nrule x /x/ -> b\nrule y /y/ -> a", []bool{yes, no, no}},
		{"mode a limit 5\nrule x /x/ -> a\nrule y /y/ -> a\nrule z /z/ -> b\nmode b limit 5\nrule x /x/ -> b\nrule y /y/ -> d\nmode c limit 5\nrule x /x/ -> c\nmode d limit 5\nrule x /x/ -> a", []bool{yes, yes, no, yes}},
		// Whatever follows a token, and whatever fault the rule has.
		{"mode a limit 5\nrule x /x/ dec 9 // count 0 max 9 -> b\nmode b limit 5\nrule x /x/ until own max 9 -> c\nmode c limit 5\nrule x /x/ until \"-\" max 9 -> d\nmode d limit 5", []bool{yes, yes, yes, yes}},
		{"mode a limit 65\nrule x // -> b\nmode b limit 65\nrule x /x/ until own max 9 -> c\nmode c limit 65\nrule x /x/ count 0 max 9 -> d\nmode d limit 5\nrule x /1/ dec 9 // -> e\nmode e limit 5\nrule x /[]/ -> f\nmode f limit 5", []bool{yes, yes, yes, yes, yes, yes}},
		{"mode a limit 5\nrule x /x/ -> a\nrule y /x/ -> b\nmode b limit 5", []bool{yes, yes}},
	} {
		f := read(t, x.text)
		if got := check.Reached(f); !slices.Equal(got, x.want) || !slices.Equal(got, reachedModel(f)) {
			t.Errorf("%s: %v", x.text, got)
		}
	}
}

// Of 16 modes each, one behind the other by whatever way.
func TestReachedOfManyModes(t *testing.T) {
	c := newChance(3)
	some := 0
	for range 3000 {
		way, cut := c.Perm(16), c.Intn(17)
		var f api.File
		for at := range 16 {
			m := api.Mode{Name: fmt.Sprint("m", at), Limit: 1}
			for i := range c.Intn(4) {
				m.Rules = append(m.Rules, api.Rule{Name: fmt.Sprint("r", i), Next: api.Next{Mode: at}})
			}
			f.Modes = append(f.Modes, m)
		}
		for i := range 15 {
			if i != cut && c.Intn(20) > 0 {
				m := &f.Modes[way[i]]
				m.Rules = append(m.Rules, api.Rule{Name: "go", Next: api.Next{Mode: way[i+1]}})
			}
		}
		got := check.Reached(f)
		if !slices.Equal(got, reachedModel(f)) {
			t.Fatalf("%v, cut at %d: %v", way, cut, got)
		}
		if slices.Contains(got[1:], true) && slices.Contains(got, false) {
			some++
		}
	}
	if some < 1000 {
		t.Error("too few are reached, but not all:", some)
	}
	var f api.File
	for at := range 16 {
		f.Modes = append(f.Modes, api.Mode{Name: fmt.Sprint("m", at), Limit: 1, Rules: []api.Rule{{Name: "x", Next: api.Next{Mode: (at + 15) % 16}}}})
	}
	if got := check.Reached(f); !slices.Equal(got, slices.Repeat([]bool{true}, 16)) {
		t.Error("a ring:", got)
	}
}

func TestIdleByHand(t *testing.T) {
	for _, x := range []struct {
		text string
		want [][2]int
	}{
		{"mode a limit 5\nrule x /x/ -> a", nil},
		{"mode a limit 5\nrule x /x/ -> a\nrule y /x/ -> a", [][2]int{{0, 1}}},
		{"mode a limit 5\nrule y /a/ -> a\nrule x /[a-z]/ -> a", nil},
		{"mode a limit 5\nrule x /[a-z]/ -> a\nrule y /a/ -> a\nrule z /ab/ -> a\nrule w /b/ -> a", [][2]int{{0, 1}, {0, 3}}},
		{"mode a limit 5\nrule x /x+/ -> a\nrule y /x{3}/ -> a\nrule z /x*y/ -> a\nrule w /xxy/ -> a", [][2]int{{0, 1}, {0, 3}}},
		// Several ahead may have all its texts, each some.
		{"mode a limit 5\nrule x /x/ -> a\nrule y /y/ -> a\nrule z /[xy]/ -> a", [][2]int{{0, 2}}},
		{"mode a limit 5\nrule x /x/ -> a\nrule y /y/ -> a\nrule z /[xyz]/ -> a", nil},
		// Whole texts count, not what they begin with.
		{"mode a limit 5\nrule x /xy*/ -> a\nrule y /xyz/ -> a\nrule z /xy/ -> a", [][2]int{{0, 2}}},
		// A limit doesn't count.
		{"mode a limit 1\nrule x /x/ -> a\nrule y /xxx/ -> a", nil},
		// Nor what follows, nor a number's greatest.
		{"mode a limit 5\nrule x /x[0-9]+/ -> a\nrule y /x/ dec 9 // count 0 max 9 -> a", [][2]int{{0, 1}}},
		{"mode a limit 5\nrule x /x/ dec 0 // -> a\nrule y /x/ hex 99 // -> a\nrule z /x/ dec 99 // -> b\nmode b limit 5\nrule x /x/ -> a", [][2]int{{0, 2}}},
		{"mode a limit 5\nrule x /x/ hex 0 // -> a\nrule y /x/ dec 99 // until own max 4 -> a\nrule z /x[^G]/ -> a", [][2]int{{0, 1}}},
		// Of each mode, whether it is reached or not, but of none with a fault.
		{"mode a limit 5\nrule x /x/ -> a\nrule y /x/ -> a\nmode b limit 5\nrule x /x/ -> a\nrule y /x/ -> a\nrule z /x/ -> a", [][2]int{{0, 1}, {1, 1}, {1, 2}}},
		{"mode a limit 5\nrule x /x/ -> a\nrule y /x/ -> a\nrule z // -> a\nmode b limit 5\nrule x /x/ -> a\nrule y /x/ -> a", [][2]int{{1, 1}}},
		{"mode a limit 5\nrule x /x/ -> a\nrule y /x/ -> a\nmode b limit 5\nmode c limit 65\nrule x /x/ -> a\nrule y /x/ until own max 2 -> a\nmode d limit 5\nrule y /x/ -> a\nrule x /x/ -> a", [][2]int{{0, 1}, {3, 1}}},
		{"mode a limit 5\nrule x /x/ -> a\nrule y /x/ -> a\nrule z /(x|y)*x(x|y){9}/ -> a", nil},
	} {
		f := read(t, x.text)
		got := check.Idle(f)
		if !slices.Equal(got, x.want) || !slices.Equal(got, idleModel(f)) {
			t.Errorf("%s: %v", x.text, got)
		}
	}
	var f api.File
	var want [][2]int
	for at := range 16 {
		m := api.Mode{Name: fmt.Sprint("m", at), Limit: 5}
		for i := range 40 {
			m.Rules = append(m.Rules, api.Rule{Name: fmt.Sprint("r", i), Before: rx.Text("x")})
			if i > 0 {
				want = append(want, [2]int{at, i})
			}
		}
		f.Modes = append(f.Modes, m)
	}
	if got := check.Idle(f); !slices.Equal(got, want) {
		t.Error(got)
	}
}

func TestIdleAndReachedAgainstModel(t *testing.T) {
	c := newChance(4)
	idle, beside := 0, 0
	for range 4000 {
		f := c.file()
		got, want := check.Idle(f), idleModel(f)
		if !slices.Equal(got, want) {
			t.Fatalf("%+v: %v, want %v", f, got, want)
		}
		if l := check.Reached(f); !slices.Equal(l, reachedModel(f)) {
			t.Fatalf("%+v: %v", f, l)
		}
		if len(got) > 0 {
			idle++
			if len(check.Faults(f)) > 0 {
				beside++
			}
		}
	}
	if idle < 100 || beside < 30 {
		t.Error("too few have idle rules:", idle, beside)
	}
}

// P15.3

// parts is the places at which s is parted into a text of Before, one or more digits, and a text of After: where the digits begin and end.
func parts(x api.Rule, s string) [][2]int {
	var l [][2]int
	for from := range len(s) {
		if !lang.Takes(x.Before, s[:from]) {
			continue
		}
		for to := from + 1; to <= len(s) && strings.Contains(digitsModel(x.Base), s[to-1:to]); to++ {
			if lang.Takes(x.After, s[to:]) {
				l = append(l, [2]int{from, to})
			}
		}
	}
	return l
}

// firstRun is where the first run of digits begins and ends.
func firstRun(base int, s string) [2]int {
	from := strings.IndexAny(s, digitsModel(base))
	rest := strings.TrimLeft(s[from:], digitsModel(base))
	return [2]int{from, len(s) - len(rest)}
}

func TestJustOnePlacePartsTheWhole(t *testing.T) {
	c := newChance(5)
	texts, behind := 0, 0
	for range 1500 {
		x := c.rule(0, 1)
		if x.Base == 0 || len(check.Faults(alone(x))) > 0 {
			continue
		}
		tab, e := table.Make([]api.Re{check.Whole(x)})
		if e != api.OK {
			t.Fatal(e)
		}
		for _, s := range table.Texts(tab, 60) {
			if len(s) > 40 {
				continue
			}
			run := firstRun(x.Base, s)
			for _, number := range []string{"0", "7", "00", "90210"} {
				s := s[:run[0]] + number + s[run[1]:]
				want := firstRun(x.Base, s)
				if l := parts(x, s); !slices.Equal(l, [][2]int{want}) {
					t.Fatalf("%+v: %q: %v, want %v", x, s, l, want)
				}
				texts++
				if strings.ContainsAny(s[want[1]:], digitsModel(x.Base)) {
					behind++
				}
			}
		}
	}
	if texts < 10000 || behind < 500 {
		t.Error("too few texts, or with digits behind the number:", texts, behind)
	}
}

// The whole has just the texts that are parted so, whether the rule has a fault or not.
func TestTextsOfTheWholeAreParted(t *testing.T) {
	c := newChance(6)
	told := map[bool]int{}
	several := 0
	for range 6000 {
		x := api.Rule{Before: c.tree(3), Base: of(c, 10, 16), After: c.tree(3)}
		re := check.Whole(x)
		tab, _ := table.Make([]api.Re{re})
		for _, s := range append(table.Texts(tab, 9), "", "0", "x0", "0y") {
			if len(s) > 20 {
				continue
			}
			if at := c.Intn(len(s) + 1); c.Intn(2) == 0 {
				s = s[:at] + of(c, "", "x", "y", ":", "0", "9", "a", "A", "z") + s[min(len(s), at+c.Intn(2)):]
			}
			l := parts(x, s)
			if takes := lang.Takes(re, s); takes != (len(l) > 0) {
				t.Fatalf("%+v: %q: %v", x, s, takes)
			}
			told[len(l) > 0]++
			if len(l) > 1 {
				several++
				if shown(check.Faults(alone(x))) != "0 0 8" {
					t.Fatalf("%+v: %q is parted at %v", x, s, l)
				}
			}
		}
	}
	if told[true] < 5000 || told[false] < 5000 || several < 500 {
		t.Error(told, several)
	}
}

// Rules that hold everywhere

func TestNothingIsChanged(t *testing.T) {
	c := newChance(7)
	for range 500 {
		f := hollow(c.file())
		if c.Intn(5) == 0 {
			f.Modes[0].Limit = 0
		}
		plain, before := copied(f), rooms(f)
		for range 2 {
			faults, idle, reached := check.Faults(f), check.Idle(f), check.Reached(f)
			if !slices.Equal(faults, check.Faults(plain)) || !slices.Equal(idle, check.Idle(plain)) || !slices.Equal(reached, check.Reached(plain)) {
				t.Fatalf("%+v: other answers", plain)
			}
			// Nothing that was answered is kept.
			clear(faults[:cap(faults)])
			clear(idle[:cap(idle)])
			clear(reached[:cap(reached)])
		}
		if !reflect.DeepEqual(copied(f), plain) || rooms(f) != before {
			t.Fatalf("%+v is changed", plain)
		}
	}
}

// Lists that have themselves as a Sub are no trees; a file with them may not be.
func TestRingsMayNotBe(t *testing.T) {
	ring := []api.Re{{Kind: api.ReRep}}
	ring[0].Sub = ring
	f := alone(api.Rule{Before: ring[0]})
	if shown(check.Faults(f)) != "-1 -1 1" || len(check.Idle(f)) != 0 || len(check.Reached(f)) != 0 {
		t.Error("a ring may be")
	}
}

// The greatest files are told soon.
func TestTheGreatest(t *testing.T) {
	var f api.File
	for at := range 16 {
		m := api.Mode{Name: fmt.Sprint("m", at), Limit: 5}
		for i := range 40 {
			re := rx.Cat(rx.Byte(octs.Of(byte(i))), rx.Rep(rx.Byte(octs.Range(byte(i), byte(200+i))), 49, 49))
			m.Rules = append(m.Rules, api.Rule{Name: fmt.Sprint("r", i), Before: re, Next: api.Next{Mode: 15}})
		}
		f.Modes = append(f.Modes, m)
	}
	if l := check.Faults(f); len(l) != 16 || l[15] != (check.Fault{Mode: 15, Rule: -1, E: api.ErrMany}) {
		t.Error(shown(l))
	}
	for i := range f.Modes {
		f.Modes[i].Rules = f.Modes[i].Rules[:11]
	}
	if l := check.Faults(f); len(l) != 0 {
		t.Error(shown(l))
	}
	if l := check.Idle(f); len(l) != 0 {
		t.Error(l)
	}
	if l := check.Reached(f); slices.Index(l, false) != 1 || slices.Index(l, true) != 0 || !l[15] {
		t.Error(l)
	}
}
