package rules_test

import (
	"fmt"
	"math"
	"reflect"
	"slices"
	"strconv"
	"strings"
	"testing"

	"hackle/api"
	"hackle/octs"
	"hackle/rules"
	"hackle/rx"
	"hackle/rxparse"
)

// head is a mode's line, behind which a rule's may stand.
const head = "mode a limit 5\n"

// reads is the file of a text, which must be one.
func reads(t *testing.T, text string) api.File {
	t.Helper()
	f, at, e := rules.Parse(text)
	if at != 0 || e != api.OK {
		t.Fatalf("%q: %d, %d", text, at, e)
	}
	return f
}

// refuses asks that a text is refused, with nothing but the place and the error.
func refuses(t *testing.T, text string, at int, e api.Errno) {
	t.Helper()
	f, p, got := rules.Parse(text)
	if p != at || got != e {
		t.Errorf("%.900q: %d, %d, want %d, %d", text, p, got, at, e)
	}
	if !reflect.DeepEqual(f, api.File{}) {
		t.Errorf("%.900q: a file beside an error", text)
	}
}

// told asks that a text is read or refused as the model says, and whether it is read.
func told(t *testing.T, text string) bool {
	t.Helper()
	f, at, e := rules.Parse(text)
	want, p, x := parseModel(text)
	if at != p || e != x {
		t.Fatalf("%q: %d, %d, want %d, %d", text, at, e, p, x)
	}
	if shown(f) != shown(want) {
		t.Fatalf("%q: %s, want %s", text, shown(f), shown(want))
	}
	return e == api.OK
}

// tree is the tree of an expression's text.
func tree(t *testing.T, s string, frags ...api.Frag) api.Re {
	t.Helper()
	re, at, e := rxparse.Parse(s, frags)
	if e != api.OK {
		t.Fatalf("%q: %d, %d", s, at, e)
	}
	return re
}

// P13.1, files

func TestExample(t *testing.T) {
	f := reads(t, "mode a limit 5 end\nrule x /y/ -> a")
	want := api.File{Modes: []api.Mode{{Name: "a", End: true, Limit: 5, Rules: []api.Rule{{Name: "x", Before: rx.Text("y")}}}}}
	if shown(f) != shown(want) {
		t.Error(shown(f))
	}
	refuses(t, "rule first", 0, api.ErrState)
	refuses(t, "mode a limit 0", 13, api.ErrRange)
}

func TestEachForm(t *testing.T) {
	y, z := rx.Text("y"), rx.Text("z")
	shapes := map[string]api.Rule{
		"/y/":                                {Before: y},
		"/y/ dec 7 /z/":                      {Before: y, Base: 10, Most: 7, After: z},
		"/y/ hex 10 /z/":                     {Before: y, Base: 16, Most: 10, After: z},
		"// dec 0 //":                        {Base: 10},
		"// hex 9223372036854775807 /z/":     {Base: 16, Most: math.MaxInt64, After: z},
		"/y/ dec 9223372036854775807 //":     {Before: y, Base: 10, Most: math.MaxInt64},
		`/\// dec 12 /\\/`:                   {Before: rx.Text("/"), Base: 10, Most: 12, After: rx.Text(`\`)},
		`/a b "-\> c/ hex 1 / dec 5 \/\/ /`:  {Before: rx.Text(`a b "-> c`), Base: 16, Most: 1, After: rx.Text(" dec 5 // ")},
		`/\\\\\/y/`:                          {Before: rx.Text(`\\/y`)},
		"/" + strings.Repeat("y", 200) + "/": {Before: rx.Text(strings.Repeat("y", 200))},
	}
	nexts := map[string]api.Next{
		"":                                       {},
		"count 0 max 0 ":                         {Kind: api.NextCount},
		"count 3 max 8 ":                         {Kind: api.NextCount, Add: 3, Max: 8},
		"count 1099511627776 max 1099511627775 ": {Kind: api.NextCount, Add: 1 << 40, Max: 1<<40 - 1},
		"count 1 max 1099511627776 ":             {Kind: api.NextCount, Add: 1, Max: 1 << 40},
		`until "--" max 4 `:                      {Kind: api.NextUntil, Max: 4, Delim: "--"},
		`until "\"\\\n\r\t\x00\xfF /" max 0 `:    {Kind: api.NextUntil, Delim: "\"\\\n\r\t\x00\xff /"},
		`until "own max 1 -> a" max 1 `:          {Kind: api.NextUntil, Max: 1, Delim: "own max 1 -> a"},
		"until own max 1099511627776 ":           {Kind: api.NextUntil, Max: 1 << 40, Own: true},
		"until own max 0 ":                       {Kind: api.NextUntil, Own: true},
	}
	for shape, rule := range shapes {
		for next, follows := range nexts {
			for place, mode := range []string{"a", "b9", "c"} {
				for _, end := range []string{"", "\n"} {
					text := "mode a limit 5\nmode b9 limit 1 end\nrule r2 " + shape + " " + next + "-> " + mode + "\nmode c limit 4096" + end
					rule.Name = "r2"
					rule.Next = follows
					rule.Next.Mode = place
					want := api.File{Modes: []api.Mode{{Name: "a", Limit: 5}, {Name: "b9", Limit: 1, End: true, Rules: []api.Rule{rule}}, {Name: "c", Limit: 4096}}}
					if f := reads(t, text); shown(f) != shown(want) {
						t.Fatalf("%q: %s", text, shown(f))
					}
				}
			}
		}
	}
}

// A fragment is for the lines behind it, whatever mode they are of; the same names stand for fragments, modes and rules, and for rules of several modes.
func TestFragments(t *testing.T) {
	f := reads(t, "frag a /[0-9]/\nmode a limit 5\nrule a /<a>x/ -> a\nfrag b /<a>+/\nrule b /<b>/ dec 5 /<a><b>/ -> b\nmode b limit 5\nrule a /y/ -> a\nfrag c //\nrule b /<c><c>/ -> b")
	a := tree(t, "[0-9]")
	b := rx.Rep(a, 1, -1)
	if len(f.Frags) != 3 || f.Frags[0].Name != "a" || f.Frags[1].Name != "b" || f.Frags[2].Name != "c" || !rx.Same(f.Frags[0].Re, a) || !rx.Same(f.Frags[1].Re, b) || !rx.Same(f.Frags[2].Re, api.Re{}) {
		t.Error(f.Frags)
	}
	one, two := f.Modes[0].Rules, f.Modes[1].Rules
	if len(one) != 2 || !rx.Same(one[0].Before, rx.Cat(a, rx.Text("x"))) || !rx.Same(one[1].Before, b) || !rx.Same(one[1].After, rx.Cat(a, b)) {
		t.Error(one)
	}
	if len(two) != 2 || two[0].Name != "a" || two[1].Name != "b" || !rx.Same(two[1].Before, rx.Cat(api.Re{}, api.Re{})) || two[0].Next.Mode != 0 || two[1].Next.Mode != 1 {
		t.Error(two)
	}
	refuses(t, "frag a /<a>/", 8, api.ErrName)
	refuses(t, "frag b /<a>/\nfrag a /x/", 8, api.ErrName)
	refuses(t, head+"rule x /<a>/ -> a\nfrag a /x/", 23, api.ErrName)
	refuses(t, "frag a /x/\n"+head+"rule x /y/ dec 5 /b<b>/ -> a", 45, api.ErrName)
}

func TestWithoutRules(t *testing.T) {
	for _, text := range []string{"mode a limit 1", "mode a limit 1\n", "\n\nmode a limit 1\n\n", "#\nmode a limit 1\n#", "frag a /x/\nmode a limit 1"} {
		f := reads(t, text)
		if len(f.Modes) != 1 || shown(api.File{Modes: f.Modes}) != shown(api.File{Modes: []api.Mode{{Name: "a", Limit: 1}}}) || len(f.Frags) != strings.Count(text, "frag") {
			t.Errorf("%q: %s", text, shown(f))
		}
	}
	for _, text := range []string{"", "\n", "\n\n\n", "#", "# mode a limit 1", "#\n", "frag a /x/", "frag a /x/\n", "frag a /x/\n#\n\n"} {
		refuses(t, text, len(text), api.ErrEmpty)
	}
}

// P13.1, errors

// behindHead is where a mode's line stands ahead: texts with the place, counted from behind that, and the error.
var behindHead = []struct {
	text string
	at   int
	e    api.Errno
}{
	// the first byte that can't stand there
	{" ", 0, api.ErrSyntax}, {"x", 0, api.ErrSyntax}, {"/", 0, api.ErrSyntax}, {"R", 0, api.ErrSyntax}, {"\t", 0, api.ErrSyntax}, {"\r\n", 0, api.ErrSyntax}, {"é", 0, api.ErrSyntax},
	{"f", 1, api.ErrSyntax}, {"fr\n", 2, api.ErrSyntax}, {"free", 2, api.ErrSyntax}, {"frag", 4, api.ErrSyntax}, {"frags", 4, api.ErrSyntax}, {"frag\n", 4, api.ErrSyntax}, {"frag ", 5, api.ErrSyntax}, {"frag  b", 5, api.ErrSyntax}, {"frag B", 5, api.ErrSyntax}, {"frag 0", 5, api.ErrSyntax},
	{"frag b", 6, api.ErrSyntax}, {"frag b ", 7, api.ErrSyntax}, {"frag b  /x/", 7, api.ErrSyntax}, {"frag b x", 7, api.ErrSyntax}, {"frag b/x/", 6, api.ErrSyntax}, {"frag b /", 8, api.ErrSyntax}, {"frag b /x", 9, api.ErrSyntax}, {"frag b /x\n/", 9, api.ErrSyntax}, {"frag b /x/ ", 10, api.ErrSyntax}, {"frag b /x/y", 10, api.ErrSyntax}, {"frag b /x//", 10, api.ErrSyntax}, {"frag b /x/\t", 10, api.ErrSyntax},
	{`frag b /\`, 9, api.ErrSyntax}, {"frag b /\\\n/", 9, api.ErrSyntax}, {`frag b /\/`, 10, api.ErrSyntax}, {`frag b /\\/ `, 11, api.ErrSyntax}, {`frag b /\\\/`, 12, api.ErrSyntax}, {"frag b /[/]/", 9, api.ErrSyntax},
	{"m", 1, api.ErrSyntax}, {"mod", 3, api.ErrSyntax}, {"mode", 4, api.ErrSyntax}, {"modeb", 4, api.ErrSyntax}, {"mode ", 5, api.ErrSyntax}, {"mode b", 6, api.ErrSyntax}, {"mode b\n", 6, api.ErrSyntax}, {"mode b_", 6, api.ErrSyntax}, {"mode bB", 6, api.ErrSyntax}, {"mode b ", 7, api.ErrSyntax}, {"mode b  limit 5", 7, api.ErrSyntax}, {"mode b limi", 11, api.ErrSyntax}, {"mode b limits", 12, api.ErrSyntax}, {"mode b limit", 12, api.ErrSyntax}, {"mode b limit ", 13, api.ErrSyntax},
	{"mode b limit  5", 13, api.ErrSyntax}, {"mode b limit x", 13, api.ErrSyntax}, {"mode b limit -1", 13, api.ErrSyntax}, {"mode b limit +1", 13, api.ErrSyntax}, {"mode b limit 5x", 14, api.ErrSyntax}, {"mode b limit 5 ", 15, api.ErrSyntax}, {"mode b limit 5  end", 15, api.ErrSyntax}, {"mode b limit 5 e", 16, api.ErrSyntax}, {"mode b limit 5 en\n", 17, api.ErrSyntax}, {"mode b limit 5 ends", 18, api.ErrSyntax}, {"mode b limit 5 end ", 18, api.ErrSyntax}, {"mode b limit 5 End", 15, api.ErrSyntax}, {"mode b limit 5 end end", 18, api.ErrSyntax}, {"mode b limit 5\r\n", 14, api.ErrSyntax},
	{"ru", 2, api.ErrSyntax}, {"rule", 4, api.ErrSyntax}, {"rules", 4, api.ErrSyntax}, {"rule ", 5, api.ErrSyntax}, {"rule x", 6, api.ErrSyntax}, {"rule x ", 7, api.ErrSyntax}, {"rule x /y/", 10, api.ErrSyntax}, {"rule x /y/ ", 11, api.ErrSyntax}, {"rule x /y/  -> a", 11, api.ErrSyntax}, {"rule x /y/->", 10, api.ErrSyntax}, {"rule x /y/ a", 11, api.ErrSyntax}, {"rule x /y/ -", 12, api.ErrSyntax}, {"rule x /y/ -a", 12, api.ErrSyntax}, {"rule x /y/ ->", 13, api.ErrSyntax}, {"rule x /y/ ->a", 13, api.ErrSyntax}, {"rule x /y/ -> ", 14, api.ErrSyntax}, {"rule x /y/ -> A", 14, api.ErrSyntax}, {"rule x /y/ -> a ", 15, api.ErrSyntax}, {"rule x /y/ -> a b", 15, api.ErrSyntax}, {"rule x /y/ -> b-", 15, api.ErrSyntax},
	{"rule x /y/ de", 13, api.ErrSyntax}, {"rule x /y/ oct 5 //", 11, api.ErrSyntax}, {"rule x /y/ dec", 14, api.ErrSyntax}, {"rule x /y/ dec ", 15, api.ErrSyntax}, {"rule x /y/ hexa", 14, api.ErrSyntax}, {"rule x /y/ hex f", 15, api.ErrSyntax}, {"rule x /y/ hex 1f", 16, api.ErrSyntax}, {"rule x /y/ dec 5", 16, api.ErrSyntax}, {"rule x /y/ dec 5 ", 17, api.ErrSyntax}, {"rule x /y/ dec 5 -> a", 17, api.ErrSyntax}, {"rule x /y/ dec 05 // -> a", 16, api.ErrSyntax}, {"rule x /y/ hex 00 // -> a", 16, api.ErrSyntax}, {"rule x /y/ dec 5 //", 19, api.ErrSyntax}, {"rule x /y/ dec 5 // ", 20, api.ErrSyntax}, {"rule x /y/ dec 5 // dec 5 // -> a", 20, api.ErrSyntax}, {"rule x /y/ dec 5 // hex 5 // -> a", 20, api.ErrSyntax},
	{"rule x /y/ count", 16, api.ErrSyntax}, {"rule x /y/ coun 1", 15, api.ErrSyntax}, {"rule x /y/ count ", 17, api.ErrSyntax}, {"rule x /y/ count 01", 18, api.ErrSyntax}, {"rule x /y/ count 1", 18, api.ErrSyntax}, {"rule x /y/ count 1 ", 19, api.ErrSyntax}, {"rule x /y/ count 1 -> a", 19, api.ErrSyntax}, {"rule x /y/ count 1 max", 22, api.ErrSyntax}, {"rule x /y/ count 1 max ", 23, api.ErrSyntax}, {"rule x /y/ count 1 max x", 23, api.ErrSyntax}, {"rule x /y/ count 1 max 00", 24, api.ErrSyntax}, {"rule x /y/ count 1 max 2", 24, api.ErrSyntax}, {"rule x /y/ count 1 max 2 ", 25, api.ErrSyntax}, {"rule x /y/ count 1 max 2  -> a", 25, api.ErrSyntax}, {"rule x /y/ count 1 max 2 until", 25, api.ErrSyntax}, {"rule x /y/ count max 2 -> a", 17, api.ErrSyntax},
	{"rule x /y/ until", 16, api.ErrSyntax}, {"rule x /y/ until ", 17, api.ErrSyntax}, {"rule x /y/ until x", 17, api.ErrSyntax}, {"rule x /y/ until 'a'", 17, api.ErrSyntax}, {"rule x /y/ until owx", 19, api.ErrSyntax}, {"rule x /y/ until own", 20, api.ErrSyntax}, {"rule x /y/ until owner", 20, api.ErrSyntax}, {"rule x /y/ until own -> a", 21, api.ErrSyntax}, {"rule x /y/ until own max", 24, api.ErrSyntax}, {"rule x /y/ until own max 5", 26, api.ErrSyntax}, {"rule x /y/ until own max 5 a", 27, api.ErrSyntax},
	{`rule x /y/ until "`, 18, api.ErrSyntax}, {`rule x /y/ until "a`, 19, api.ErrSyntax}, {"rule x /y/ until \"a\n\"", 19, api.ErrSyntax}, {`rule x /y/ until "a"`, 20, api.ErrSyntax}, {`rule x /y/ until "a"max 5`, 20, api.ErrSyntax}, {`rule x /y/ until "a" -> a`, 21, api.ErrSyntax}, {`rule x /y/ until "a" max`, 24, api.ErrSyntax}, {`rule x /y/ until "a" max 5 -> `, 30, api.ErrSyntax}, {`rule x /y/ until "a"b" max 5 -> a`, 20, api.ErrSyntax},
	{`rule x /y/ until "\`, 19, api.ErrSyntax}, {"rule x /y/ until \"\\\n", 19, api.ErrSyntax}, {`rule x /y/ until "\q" max 5 -> a`, 19, api.ErrSyntax}, {`rule x /y/ until "\x" max 5 -> a`, 20, api.ErrSyntax}, {`rule x /y/ until "\x1" max 5 -> a`, 21, api.ErrSyntax}, {`rule x /y/ until "\x1g" max 5 -> a`, 21, api.ErrSyntax}, {`rule x /y/ until "\0" max 5 -> a`, 19, api.ErrSyntax}, {`rule x /y/ until "\N" max 5 -> a`, 19, api.ErrSyntax}, {`rule x /y/ until "\/" max 5 -> a`, 19, api.ErrSyntax},
	{"#\t", 1, api.ErrSyntax}, {"# x\x7f", 3, api.ErrSyntax}, {"# x\r\n", 3, api.ErrSyntax}, {"#é", 1, api.ErrSyntax}, {"#\x00\n", 1, api.ErrSyntax},

	// names that stand already
	{"mode a limit 5", 5, api.ErrTwice}, {"mode a", 5, api.ErrTwice}, {"mode a\n", 5, api.ErrTwice}, {"mode a-", 5, api.ErrTwice}, {"mode aA", 5, api.ErrTwice}, {"mode a  limit 5", 5, api.ErrTwice}, {"mode a limit 0", 5, api.ErrTwice}, {"mode aa limit 5\nmode aa limit 5", 21, api.ErrTwice},
	{"frag b //\nfrag b //", 15, api.ErrTwice}, {"frag b //\nfrag b", 15, api.ErrTwice}, {"frag b //\nfrag b/", 15, api.ErrTwice}, {"frag b //\nfrag b /<x>/", 15, api.ErrTwice}, {"frag b //\nfrag c //\nfrag d //\nfrag c //", 35, api.ErrTwice},
	{"rule x /y/ -> a\nrule x /z/ -> a", 21, api.ErrTwice}, {"rule x /y/ -> a\nrule x", 21, api.ErrTwice}, {"rule x /y/ -> a\nrule x/", 21, api.ErrTwice}, {"rule x /y/ -> b\nrule x", 21, api.ErrTwice}, {"rule x /y/ -> a\nrule y /y/ -> a\nfrag x //\nrule x", 47, api.ErrTwice},
	{"mode a\t", 6, api.ErrSyntax}, {"mode a\x80 limit 5", 6, api.ErrSyntax}, {"frag b //\nfrag b\x7f", 16, api.ErrSyntax}, {"rule x /y/ -> a\nrule x\r\n", 22, api.ErrSyntax},

	// numbers
	{"mode b limit 0", 13, api.ErrRange}, {"mode b limit 4097", 13, api.ErrRange}, {"mode b limit 05", 13, api.ErrRange}, {"mode b limit 00", 13, api.ErrRange}, {"mode b limit 0x", 13, api.ErrRange}, {"mode b limit 0 ", 13, api.ErrRange}, {"mode b limit 0\n", 13, api.ErrRange}, {"mode b limit 9999999999999999999999999x", 13, api.ErrRange}, {"mode b limit 18446744073709551617", 13, api.ErrRange}, {"mode b limit 4294967297 end", 13, api.ErrRange},
	{"mode b limit 0\t", 14, api.ErrSyntax}, {"mode b limit 4097\x00", 17, api.ErrSyntax}, {"mode b limit 4097\xff", 17, api.ErrSyntax}, {"mode b limit 00\t", 13, api.ErrRange},
	{"rule x /y/ dec 9223372036854775808 // -> a", 15, api.ErrRange}, {"rule x /y/ hex 9223372036854775808 // -> a", 15, api.ErrRange}, {"rule x /y/ dec 9223372036854775808", 15, api.ErrRange}, {"rule x /y/ dec 9223372036854775808\n", 15, api.ErrRange}, {"rule x /y/ dec 9223372036854775808a", 15, api.ErrRange}, {"rule x /y/ dec 18446744073709551616 //", 15, api.ErrRange}, {"rule x /y/ dec 9223372036854775808\t", 34, api.ErrSyntax},
	{"rule x /y/ count 1099511627777 max 5 -> a", 17, api.ErrRange}, {"rule x /y/ count 1099511627777", 17, api.ErrRange}, {"rule x /y/ count 18446744073709551616 max", 17, api.ErrRange}, {"rule x /y/ count 1099511627777\x01", 30, api.ErrSyntax}, {"rule x /y/ count 0 max 1099511627777 -> a", 23, api.ErrRange}, {"rule x /y/ count 0 max 9223372036854775808", 23, api.ErrRange}, {"rule x /y/ count 0 max 1099511627777\x7f", 36, api.ErrSyntax},
	{`rule x /y/ until "a" max 1099511627777 -> a`, 25, api.ErrRange}, {"rule x /y/ until own max 1099511627777 -> a", 25, api.ErrRange}, {"rule x /y/ until own max 1099511627777\t", 38, api.ErrSyntax},

	// delimiters
	{`rule x /y/ until "" max 5 -> a`, 17, api.ErrRange}, {`rule x /y/ until ""`, 17, api.ErrRange}, {`rule x /y/ until ""a`, 17, api.ErrRange}, {"rule x /y/ until \"\"\t", 17, api.ErrRange}, {"rule x /y/ until \"\"\n", 17, api.ErrRange}, {"rule x /y/ until \"\t\"", 18, api.ErrSyntax}, {"rule x /y/ until \"ab\x80\" max 5", 20, api.ErrSyntax},
	{"rule x /y/ until \"\\\t\"", 19, api.ErrSyntax}, {"rule x /y/ until \"\\x\x02\"", 20, api.ErrSyntax}, {"rule x /y/ until \"\\q\t\" max", 20, api.ErrSyntax}, {"rule x /y/ until \"\\x\"\t", 20, api.ErrSyntax}, {"rule x /y/ until \"\\q\"\t", 19, api.ErrSyntax}, {"rule x /y/ until \"\\q\n\t", 19, api.ErrSyntax},

	// expressions
	{"rule x /y*{/ -> a", 10, api.ErrSyntax}, {"rule x /y*{", 11, api.ErrSyntax}, {"rule x /y*{\t/", 11, api.ErrSyntax}, {"rule x /y*{/\t", 10, api.ErrSyntax}, {"rule x /<f>/ -> a", 8, api.ErrName}, {"rule x /<f>", 11, api.ErrSyntax}, {"rule x /<f>\x00/", 11, api.ErrSyntax}, {"rule x /<f>/", 8, api.ErrName}, {"rule x /<f>/x", 8, api.ErrName}, {"rule x /a<f>/", 9, api.ErrName}, {"rule x /(/", 9, api.ErrSyntax}, {"rule x /)/", 8, api.ErrSyntax}, {`rule x /\q/`, 9, api.ErrSyntax}, {"rule x /a{3,2}/", 9, api.ErrSyntax}, {`rule x /\x1/`, 11, api.ErrSyntax},
	{"rule x /y/ dec 5 /<f>/ -> a", 18, api.ErrName}, {"rule x /y/ dec 5 /z**/ -> a", 20, api.ErrSyntax}, {"rule x /y/ dec 5 /z**", 21, api.ErrSyntax}, {"frag b /a|*/", 10, api.ErrSyntax}, {"frag b /<b>/", 8, api.ErrName}, {"frag b /<b>\n", 11, api.ErrSyntax},
	{"rule x /" + strings.Repeat("(", 31) + "/", 38, api.ErrDeep}, {"rule x /" + strings.Repeat("a", 300) + "/", 8, api.ErrMany}, {"rule x /" + strings.Repeat("a", 400) + "b/", 8, api.ErrMany}, {"rule x /" + strings.Repeat("*", 401) + "/", 8, api.ErrMany}, {"rule x /*" + strings.Repeat("a", 399) + "/", 8, api.ErrSyntax}, {"rule x /" + strings.Repeat("a", 500), 508, api.ErrSyntax}, {"rule x /" + strings.Repeat("a", 500) + "\x00/", 508, api.ErrSyntax},

	// modes that none has, told at last
	{"rule x /y/ -> b", 14, api.ErrName}, {"rule x /y/ -> b\nrule z /y/ -> c", 14, api.ErrName}, {"rule x /y/ -> a\nrule z /y/ -> c\nrule q /y/ -> b", 30, api.ErrName}, {"rule x /y/ -> aa", 14, api.ErrName}, {"rule x /y/ -> b\nrule x", 21, api.ErrTwice}, {"rule x /y/ -> b\nx", 16, api.ErrSyntax}, {"rule x /y/ -> b\nmode c limit 0", 29, api.ErrRange}, {"rule x /y/ -> b\nfrag b //", 14, api.ErrName}, {"rule x /y/ -> x", 14, api.ErrName},
	{"rule x /y/ until own max 5 -> c\nmode b limit 5\nrule y /y/ -> d", 30, api.ErrName}, {"rule x /y/ -> b\t", 15, api.ErrSyntax}, {"rule x /y/ -> b\nmode b limit 1\nrule z // -> z", 44, api.ErrName},
}

func TestErrorsByHand(t *testing.T) {
	for _, x := range behindHead {
		refuses(t, head+x.text, len(head)+x.at, x.e)
		told(t, head+x.text)
		// What stands ahead, of whatever names, counts for places alone.
		for _, ahead := range []string{"#\n\n", "frag z9 /a/\n", "mode q limit 1\nrule x /<a>/ -> a\n"} {
			if strings.Contains(ahead, "<a>") {
				ahead = "frag a /a/\n" + ahead
			}
			refuses(t, ahead+head+x.text, len(ahead+head)+x.at, x.e)
		}
	}
}

// What stands in lines behind the first error doesn't count, but for errors that are told at last.
func TestWhatIsBehindTheFirstError(t *testing.T) {
	for _, x := range behindHead {
		if x.e == api.ErrName && strings.Contains(x.text, "-> ") && !strings.Contains(x.text, "<f>") {
			continue
		}
		text := head + x.text
		for _, more := range []string{"\n", "\n\n#", "\nmode b limit 0", "\nrule", "\n\t", "\n\x00\xff"} {
			if !strings.HasSuffix(text, "\n") {
				refuses(t, text+more, len(head)+x.at, x.e)
			}
		}
	}
}

// A rule ahead of all modes is told once the word and a blank are read; so are lines of which there are too many.
func TestLinesThatAreRefused(t *testing.T) {
	for _, ahead := range []string{"", "\n", "# x\n", "frag x //\n"} {
		for _, text := range []string{"rule ", "rule x", "rule x /y/ -> a", "rule \t", "rule \n", "rule  ", "rule x /y/ -> a\nmode a limit 5"} {
			refuses(t, ahead+text, len(ahead), api.ErrState)
		}
		for at, text := range []string{"\t", "r", "ru", "rul\n", "rule", "rule\t", "rule/"} {
			refuses(t, ahead+text, len(ahead)+min(at, 4), api.ErrSyntax)
		}
	}
	frags, modes, of := "", "", head
	for i := range 40 {
		frags += fmt.Sprintf("frag f%d /a/\n", i)
		of += fmt.Sprintf("rule f%d /a/ -> a\n", i)
		if i < 16 {
			modes += fmt.Sprintf("mode f%d limit 5\n", i)
		}
	}
	f := reads(t, frags+modes)
	if len(f.Frags) != 40 || len(f.Modes) != 16 || f.Frags[39].Name != "f39" || f.Modes[15].Name != "f15" {
		t.Error(shown(f))
	}
	for ahead, word := range map[string]string{frags: "frag", modes: "mode", of: "rule", frags + of: "rule", modes + frags: "frag"} {
		for _, more := range []string{" ", " x", " f0", " f1 /a/", " \t", " \n", " f0 limit 0"} {
			refuses(t, ahead+word+more, len(ahead), api.ErrMany)
		}
		for _, more := range []string{"", "x", "\n", "\t", "s x"} {
			refuses(t, ahead+word+more, len(ahead)+4, api.ErrSyntax)
		}
		refuses(t, ahead+word[:3], len(ahead)+3, api.ErrSyntax)
		refuses(t, ahead+"\n#\n"+word+" x", len(ahead)+3, api.ErrMany)
	}
	// Rules are counted by modes.
	f = reads(t, of+strings.Replace(of, "mode a", "mode b", 1)+"\n")
	if len(f.Modes) != 2 || len(f.Modes[0].Rules) != 40 || len(f.Modes[1].Rules) != 40 || f.Modes[1].Rules[39].Name != "f39" || f.Modes[1].Rules[39].Next.Mode != 0 {
		t.Error(shown(f))
	}
	reads(t, of+"frag x //\nmode b limit 5\nrule f0 /b/ -> a\n")
}

func TestGreatFiles(t *testing.T) {
	for n := 7990; n <= 8010; n++ {
		for _, text := range []string{head + "#" + strings.Repeat("x", n-len(head)-1), head + strings.Repeat("\n", n-len(head))} {
			if n > 8000 {
				refuses(t, text, 0, api.ErrMany)
			} else if f := reads(t, text); len(f.Modes) != 1 {
				t.Error(n, shown(f))
			}
		}
		at, e := 0, api.ErrMany
		if n <= 8000 {
			at, e = 0, api.ErrSyntax
		}
		refuses(t, strings.Repeat("\t", n), at, e)
		refuses(t, strings.Repeat("x", n), at, e)
	}
	refuses(t, strings.Repeat("\n", 8000), 8000, api.ErrEmpty)
	refuses(t, strings.Repeat("\n", 1<<20), 0, api.ErrMany)
	long := head + "rule x /y/ until \""
	refuses(t, long+strings.Repeat("a", 8000-len(long)), 8000, api.ErrSyntax)
	refuses(t, long+strings.Repeat("a", 7999-len(long))+"\"", len(long)-1, api.ErrRange)
	refuses(t, long+strings.Repeat("a", 7998-len(long))+"\t\"", 7998, api.ErrSyntax)
	digits := head + "mode b limit 1"
	refuses(t, digits+strings.Repeat("0", 8000-len(digits)), len(digits)-1, api.ErrRange)
	refuses(t, digits+strings.Repeat("0", 7999-len(digits))+"\t", 7999, api.ErrSyntax)
	refuses(t, head+"mode "+strings.Repeat("a", 7000), len(head)+5+24, api.ErrSyntax)
}

func TestNames(t *testing.T) {
	long := "n" + strings.Repeat("0", 23)
	reads(t, "frag "+long+" /a/\nmode "+long+" limit 5\nrule "+long+" /<"+long+">/ -> "+long)
	for line, at := range map[string]int{"frag %s /a/": 5, "mode %s limit 5": 5, "rule %s /a/ -> a": 5, "rule x /a/ -> %s": 14} {
		for _, x := range []struct {
			name string
			at   int
		}{{long + "0", 24}, {long + "zzz", 24}, {"0", 0}, {"A", 0}, {"", 0}, {"-", 0}, {"aB", 2}, {"é", 0}, {"b\xff", 1}, {long + "\t", 24}} {
			text := head + fmt.Sprintf(line, x.name)
			if x.name == "aB" {
				text, x.at = head+fmt.Sprintf(line, "bB"), 1
			}
			refuses(t, text, len(head)+at+x.at, api.ErrSyntax)
			told(t, text)
		}
	}
	for b := range 256 {
		for _, s := range []string{string([]byte{byte(b)}), "b" + string([]byte{byte(b)}), "b0" + string([]byte{byte(b)}) + "c"} {
			for _, line := range []string{"frag %s //", "mode %s limit 5", "rule %s // -> a", "rule x // -> %s\nmode b limit 5"} {
				told(t, head+fmt.Sprintf(line, s))
			}
		}
	}
}

func TestNumbers(t *testing.T) {
	most := map[string]uint64{"mode b limit %s": 4096, "rule x // dec %s // -> a": math.MaxInt64, "rule x // hex %s // -> a": math.MaxInt64, "rule x // count %s max 5 -> a": 1 << 40, "rule x // count 5 max %s -> a": 1 << 40, `rule x // until "a" max %s -> a`: 1 << 40, "rule x // until own max %s -> a": 1 << 40}
	for line, n := range most {
		at := len(head) + strings.IndexByte(line, '%')
		for _, far := range []uint64{0, 1, 2, 9, 10, 11, n - 1, n, n + 1, n + 2, 2*n + 1, 1 << 32, 1<<32 + 1, 1<<63 - 1, 1 << 63, 1<<64 - 1} {
			text := head + fmt.Sprintf(line, strconv.FormatUint(far, 10))
			if far > n || far == 0 && n == 4096 {
				refuses(t, text, at, api.ErrRange)
			} else if f := reads(t, text); !strings.Contains(shown(f), fmt.Sprint(far)) {
				t.Errorf("%q: %s", text, shown(f))
			}
		}
		for _, digits := range []string{"18446744073709551616", "18446744073709551617", "99999999999999999999", strings.Repeat("9", 1000), "9223372036854775808000"} {
			refuses(t, head+fmt.Sprintf(line, digits), at, api.ErrRange)
		}
		for b := range 256 {
			for _, s := range []string{"", "0", "5", "00", "99999999999999999999"} {
				told(t, head+fmt.Sprintf(line, s+string([]byte{byte(b)})))
				told(t, head+fmt.Sprintf(line, s+string([]byte{byte(b)})+"1"))
			}
		}
	}
}

func TestDelimiters(t *testing.T) {
	of := func(text string) string { return head + `rule x /y/ until "` + text + `" max 5 -> a` }
	at := len(head) + 17
	for n := range 70 {
		for text, one := range map[string]string{"a": "a", `\n`: "\n", `\x80`: "\x80", `\"`: `"`, `\\`: `\`} {
			s := of(strings.Repeat(text, n))
			if n < 1 || n > 64 {
				refuses(t, s, at, api.ErrRange)
			} else if d := reads(t, s).Modes[0].Rules[0].Next.Delim; d != strings.Repeat(one, n) {
				t.Errorf("%q: %q", s, d)
			}
		}
	}
	for b := range 256 {
		one := string([]byte{byte(b)})
		for _, s := range []string{one, "a" + one + "b", `\` + one, `\` + one + "0", `\x` + one, `\x0` + one, `\x` + one + "0", `\q` + one, `\` + one + one, `\x"` + one, strings.Repeat("a", 64) + one, strings.Repeat("a", 65) + `\` + one} {
			told(t, of(s))
		}
		if d := reads(t, of(fmt.Sprintf(`\x%02x\x%02X`, b, b))).Modes[0].Rules[0].Next.Delim; d != one+one {
			t.Errorf("%q", d)
		}
	}
}

func TestExpressions(t *testing.T) {
	for b := range 256 {
		one := string([]byte{byte(b)})
		for _, s := range []string{one, "a" + one, `\` + one, `\\` + one, "[" + one + "]", `[\` + one + "]", `\x` + one, "<f>" + one, "<g>" + one, `<g>\` + one, "*" + one, `\` + one + "/"} {
			for _, line := range []string{"frag x /%s/", "rule x /%s/ -> a", "rule x // dec 5 /%s/ -> a"} {
				told(t, "frag f /y/\n"+head+fmt.Sprintf(line, s))
			}
		}
	}
	// Where one ends: each \ takes the byte behind it with it.
	for s, want := range map[string]string{`\//`: "/", `\\/`: `\`, `\\\//`: `\/`, `\\\\/`: `\\`, `a\/b\//`: "a/b/", `\/\/\\/`: `//\`} {
		if re := reads(t, head+"rule x /"+s+" -> a").Modes[0].Rules[0].Before; !rx.Same(re, rx.Text(want)) {
			t.Errorf("%q: %v", s, re)
		}
	}
	long := strings.Repeat("[ab]", 100)
	reads(t, head+"rule x /"+long+"/ hex 5 /"+long+"/ -> a")
	refuses(t, head+"rule x /"+long+"/ hex 5 /"+long+"a/ -> a", len(head)+9+400+8, api.ErrMany)
}

// P13.1, against the model

// whole has each form that a line may have.
const whole = "# hi\n\nfrag d /[0-9]/\nmode a limit 9 end\nrule n // dec 99 /:/ count 1 max 20 -> b\nrule q /<d>x/ until \"\\r\\x0A\" max 5 -> a\nmode b limit 20\nrule o /[a-z]+\\// until own max 0 -> a\nrule h /\\\\/ hex 5 // -> b\n"

func TestEachBeginning(t *testing.T) {
	for n := range len(whole) + 1 {
		told(t, whole[:n])
		told(t, whole[:n]+"\n")
		told(t, whole[:n]+"\n"+whole[n:])
		told(t, whole[n:])
	}
	told(t, strings.TrimSuffix(whole, "\n"))
}

// Each byte of a text is another one, is lacking, or has another one ahead.
func TestEachOtherByte(t *testing.T) {
	others := []byte("/\\\"# <>-0159afhxqzA\n\t\x00\x1f\x7f\x80\xff")
	for at := range len(whole) {
		told(t, whole[:at]+whole[at+1:])
		for _, b := range others {
			told(t, whole[:at]+string([]byte{b})+whole[at+1:])
			told(t, whole[:at]+string([]byte{b})+whole[at:])
		}
	}
}

func TestAgainstModel(t *testing.T) {
	c := newChance(13)
	read, errs := 0, map[api.Errno]int{}
	for range 12000 {
		w := writer{c, []int{3, 20, 100, 1000}[c.Intn(4)]}
		text := w.lines(c.Intn(12))
		if c.Intn(2) == 0 {
			text = c.spoilt(text)
		}
		if told(t, text) {
			read++
		}
		_, _, e := rules.Parse(text)
		errs[e]++
	}
	for _, e := range []api.Errno{api.OK, api.ErrSyntax, api.ErrMany, api.ErrName, api.ErrTwice, api.ErrRange, api.ErrState, api.ErrEmpty} {
		if errs[e] < 5 {
			t.Errorf("only %d times the error %d", errs[e], e)
		}
	}
	if read < 500 {
		t.Error("only so many files were read:", read)
	}
}

// Any bytes end, and are told as the model tells them.
func TestOfAnyBytes(t *testing.T) {
	c := newChance(14)
	const some = "frag mode rule limit end dec hex count until own max -> a b /x/ /<a>/ \"a\" 5 0 # \n \t"
	parts := strings.Split(some, " ")
	for range 20000 {
		var text string
		for range c.Intn(14) {
			text += c.of(parts...) + c.of(" ", " ", " ", " ", "\n", "")
		}
		told(t, text)
	}
	for range 3000 {
		l := make([]byte, c.Intn(40))
		for i := range l {
			l[i] = byte(c.Intn(256))
		}
		told(t, string(l))
		told(t, head+"rule x /"+string(l))
	}
}

// P13.2

func TestTextByHand(t *testing.T) {
	for _, x := range []struct {
		s, text string
		at      int
		e       api.Errno
	}{
		{`"ab"c`, "ab", 4, api.OK}, {`""`, "", 2, api.OK}, {`"""`, "", 2, api.OK}, {`"a""b"`, "a", 3, api.OK}, {`"\""`, `"`, 4, api.OK}, {`"\\"`, `\`, 4, api.OK}, {`"\\\""x`, `\"`, 6, api.OK}, {`"\n\r\t"`, "\n\r\t", 8, api.OK}, {`"\x00\xfF\xAb"`, "\x00\xff\xab", 14, api.OK},
		{`"\x0d0"`, "\r0", 7, api.OK}, {`" ~"`, " ~", 4, api.OK}, {`"/#'"`, "/#'", 5, api.OK}, {"\"a\"\x00\n", "a", 3, api.OK}, {`"nrtx"`, "nrtx", 6, api.OK}, {`"\\n"`, `\n`, 5, api.OK},
		{"", "", 0, api.ErrSyntax}, {"a", "", 0, api.ErrSyntax}, {` "a"`, "", 0, api.ErrSyntax}, {"'a'", "", 0, api.ErrSyntax}, {`\"a"`, "", 0, api.ErrSyntax}, {"\x00", "", 0, api.ErrSyntax}, {"\n\"\"", "", 0, api.ErrSyntax},
		{`"`, "", 1, api.ErrSyntax}, {`"ab`, "", 3, api.ErrSyntax}, {`"\`, "", 2, api.ErrSyntax}, {`"\"`, "", 3, api.ErrSyntax}, {`"\\`, "", 3, api.ErrSyntax}, {`"\x`, "", 3, api.ErrSyntax}, {`"\x1`, "", 4, api.ErrSyntax}, {`"\x12`, "", 5, api.ErrSyntax},
		{`"\q"`, "", 2, api.ErrSyntax}, {`"a\0"`, "", 3, api.ErrSyntax}, {`"\N"`, "", 2, api.ErrSyntax}, {`"\X00"`, "", 2, api.ErrSyntax}, {`"\'"`, "", 2, api.ErrSyntax}, {`"\ "`, "", 2, api.ErrSyntax}, {`"\x"`, "", 3, api.ErrSyntax}, {`"\x1"`, "", 4, api.ErrSyntax}, {`"\xg0"`, "", 3, api.ErrSyntax}, {`"\x0g"`, "", 4, api.ErrSyntax}, {`"\x-1"`, "", 3, api.ErrSyntax},
		{"\"\n\"", "", 1, api.ErrSyntax}, {"\"a\t\"", "", 2, api.ErrSyntax}, {"\"\\\n\"", "", 2, api.ErrSyntax}, {"\"\x7f\"", "", 1, api.ErrSyntax}, {"\"é\"", "", 1, api.ErrSyntax}, {"\"\\q\t\"", "", 2, api.ErrSyntax}, {"\"a\x00", "", 2, api.ErrSyntax},
	} {
		if text, at, e := rules.Text(x.s); text != x.text || at != x.at || e != x.e {
			t.Errorf("%q: %q, %d, %d", x.s, text, at, e)
		}
	}
}

// saysText asks that a text is read as the model reads it.
func saysText(t *testing.T, s string) {
	t.Helper()
	text, at, e := rules.Text(s)
	if want, p, x := textModel(s); text != want || at != p || e != x {
		t.Fatalf("%.900q: %.900q, %d, %d, want %.900q, %d, %d", s, text, at, e, want, p, x)
	}
}

func TestTextAgainstModel(t *testing.T) {
	for b := range 256 {
		one := string([]byte{byte(b)})
		for _, s := range []string{"%s", "%s\"", "\"%s", "\"%s\"", "\"a%s\"", "\"\\%s\"", "\"\\%s", "\"\\%s0\"", "\"\\x%s\"", "\"\\x%s0\"", "\"\\x0%s\"", "\"\\xf%s\"x", "\"\\xF%s", "\"a\"%s"} {
			saysText(t, strings.Replace(s, "%s", one, 1))
		}
		for d := range 256 {
			saysText(t, `"\x`+one+string([]byte{byte(d)})+`"`)
		}
	}
	c := newChance(15)
	for range 30000 {
		s := `"`
		for range c.Intn(8) {
			s += c.of("a", `\`, `"`, "x", "n", "0", "f", "q", `\\`, `\"`, `\x0a`, `\xFf`, " ", "\t", "\x80", "~")
		}
		saysText(t, s)
		saysText(t, s+`"`)
	}
}

// Each text of bytes, quoted in any of the ways, is told, whatever stands behind.
func TestTextOfAllBytes(t *testing.T) {
	c := newChance(16)
	for range 2000 {
		want := make([]byte, c.Intn(200))
		s := `"`
		for i := range want {
			want[i] = byte(c.Intn(256))
			s += c.quoted(want[i])
		}
		s += `"`
		for _, more := range []string{"", " ", `"`, "\\", "\x00", "x"} {
			if text, at, e := rules.Text(s + more); text != string(want) || at != len(s) || e != api.OK {
				t.Fatalf("%q: %q, %d, %d", s+more, text, at, e)
			}
		}
		for n := range len(s) {
			if text, at, e := rules.Text(s[:n]); text != "" || at != n || e != api.ErrSyntax {
				t.Fatalf("%q: %q, %d, %d", s[:n], text, at, e)
			}
		}
	}
}

// quoted is one way in which a byte may stand in a quoted text.
func (c chance) quoted(b byte) string {
	ways := []string{fmt.Sprintf(`\x%02x`, b), fmt.Sprintf(`\x%02X`, b)}
	if at := strings.IndexByte("\n\r\t\"\\", b); at >= 0 {
		ways = append(ways, `\`+string(`nrt"\`[at]))
	} else if b >= 32 && b <= 126 {
		ways = append(ways, string(rune(b)))
	}
	return c.of(ways...)
}

func TestTextOfAnyLength(t *testing.T) {
	for _, n := range []int{63, 64, 65, 400, 401, 8000, 8001, 1 << 22} {
		for s, one := range map[string]string{"a": "a", `\x41`: "A", `\"`: `"`} {
			all := strings.Repeat(s, n)
			if text, at, e := rules.Text(`"` + all + `"x`); text != strings.Repeat(one, n) || at != len(all)+2 || e != api.OK {
				t.Error(n, s, at, e)
			}
			if text, at, e := rules.Text(`"` + all); text != "" || at != len(all)+1 || e != api.ErrSyntax {
				t.Error(n, s, at, e)
			}
		}
	}
}

// P13.3

// between is a text with some lines that say nothing ahead of each line, and where each of its bytes, and its end, stand then.
func (c chance) between(text string) (string, []int) {
	var l string
	var places []int
	fill := func() {
		for range c.Intn(3) {
			l += c.of("", "#", "# x", "# rule x /y/ -> a", "##\"/\\") + "\n"
		}
	}
	for _, line := range strings.SplitAfter(text, "\n") {
		if line == "" {
			continue
		}
		fill()
		for i := range len(line) {
			places = append(places, len(l)+i)
		}
		l += line
	}
	if text == "" || strings.HasSuffix(text, "\n") {
		fill()
	}
	return l, append(places, len(l))
}

func TestLinesThatSayNothing(t *testing.T) {
	c := newChance(17)
	read := 0
	for range 4000 {
		w := writer{c, []int{8, 1000}[c.Intn(2)]}
		text := w.lines(c.Intn(10))
		if c.Intn(3) == 0 {
			text = c.spoilt(text)
		}
		f, at, e := rules.Parse(text)
		more, places := c.between(text)
		g, p, x := rules.Parse(more)
		if e == api.OK {
			read++
		} else {
			at = places[at]
		}
		if x != e || p != at || shown(f) != shown(g) {
			t.Fatalf("%q: %d, %d; with lines between %q: %d, %d", text, at, e, more, p, x)
		}
	}
	if read < 300 {
		t.Error("only so many files were read:", read)
	}
}

// Rules that hold everywhere

// spoil changes all that can be changed of a tree.
func spoil(re *api.Re) {
	for i := range re.Sub {
		spoil(&re.Sub[i])
	}
	*re = api.Re{Kind: 9}
}

func TestMemory(t *testing.T) {
	const text = "frag a /(x|y)z/\nfrag b /<a>/\nmode a limit 5\nrule x /<a>/ -> a\nrule y /<a><b>/ dec 9 /<b>/ -> a\nmode b limit 5\nrule x /<a>/ until \"-\" max 5 -> a\n"
	fresh := shown(reads(t, text))
	// Nothing of an answer is shared with another one, or within one: each tree is spoilt, and then put in anew.
	for i, was := range []string{"(x|y)z", "(x|y)z", "(x|y)z", "((x|y)z)((x|y)z)", "(x|y)z", "(x|y)z"} {
		f, g := reads(t, text), reads(t, text)
		re := []*api.Re{&f.Frags[0].Re, &f.Frags[1].Re, &f.Modes[0].Rules[0].Before, &f.Modes[0].Rules[1].Before, &f.Modes[0].Rules[1].After, &f.Modes[1].Rules[0].Before}[i]
		spoil(re)
		*re = tree(t, was)
		if shown(f) != fresh || shown(g) != fresh {
			t.Errorf("the tree %d shares its nodes", i)
		}
	}
	f := reads(t, text)
	clear(f.Modes[0].Rules)
	_ = append(f.Modes[0].Rules, api.Rule{Name: "q"})
	_ = append(f.Modes, api.Mode{Name: "q"})
	_ = append(f.Frags, api.Frag{Name: "q"})
	if len(f.Modes[1].Rules) != 1 || f.Modes[1].Rules[0].Name != "x" || shown(reads(t, text)) != fresh {
		t.Error("lists are shared")
	}
}

// What a call answers doesn't hang on the calls ahead of it.
func TestKeepsNothing(t *testing.T) {
	texts := []string{whole, "", head, "rule x", "frag d /x/\nmode a limit 5\nmode b limit 5", head + "rule x /<d>/ -> b", head + "mode a limit 5", whole}
	want := make([]string, len(texts))
	for i, text := range texts {
		f, at, e := parseModel(text)
		want[i] = fmt.Sprint(shown(f), at, e)
	}
	for range 3 {
		for i, text := range slices.Backward(texts) {
			f, at, e := rules.Parse(text)
			if got := fmt.Sprint(shown(f), at, e); got != want[i] {
				t.Errorf("%q: %s, want %s", text, got, want[i])
			}
		}
	}
	if n := octs.Count(reads(t, whole).Frags[0].Re.Set); n != 10 {
		t.Error(n)
	}
}
