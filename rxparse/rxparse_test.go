package rxparse_test

import (
	"math/rand"
	"reflect"
	"slices"
	"strconv"
	"strings"
	"testing"

	"hackle/api"
	"hackle/octs"
	"hackle/rx"
	"hackle/rxparse"
)

var a, b, c = one('a'), one('b'), one('c')

// reads asks that s has the tree want.
func reads(t *testing.T, s string, frags []api.Frag, want api.Re) {
	t.Helper()
	re, at, e := rxparse.Parse(s, frags)
	if e != api.OK || at != 0 || !rx.Same(re, want) {
		t.Errorf("%q: %v, %d, %d, want %v", s, re, at, e, want)
	}
	if !rx.May(re) {
		t.Errorf("%q: may not be", s)
	}
}

// refuses asks that s is refused, with nothing but the place and the error.
func refuses(t *testing.T, s string, frags []api.Frag, at int, e api.Errno) {
	t.Helper()
	re, p, got := rxparse.Parse(s, frags)
	if p != at || got != e {
		t.Errorf("%q: %d, %d, want %d, %d", s, p, got, at, e)
	}
	if !reflect.DeepEqual(re, api.Re{}) {
		t.Errorf("%q: a tree beside an error: %v", s, re)
	}
}

func syntax(t *testing.T, s string, at int) {
	t.Helper()
	refuses(t, s, nil, at, api.ErrSyntax)
}

// P6.1, MayName

func TestMayName(t *testing.T) {
	small := func(b int) bool { return b >= 'a' && b <= 'z' }
	for x := range 256 {
		s := string([]byte{byte(x)})
		if rxparse.MayName(s) != small(x) {
			t.Errorf("%q", s)
		}
		digit := x >= '0' && x <= '9'
		for _, s := range []string{"a" + s, "a" + s + "z", strings.Repeat("q", 23) + s} {
			if rxparse.MayName(s) != (small(x) || digit) {
				t.Errorf("%q", s)
			}
		}
	}
	for _, s := range []string{"", "0", "0a", "9z", "a ", " a", "a_b", "aé", "é", "a\x00", "<a>", "A", "aB"} {
		if rxparse.MayName(s) {
			t.Errorf("%q is a name", s)
		}
	}
	for n := range 60 {
		if s := strings.Repeat("a", n); rxparse.MayName(s) != (n >= 1 && n <= 24) {
			t.Errorf("%d bytes", n)
		}
		if s := "z" + strings.Repeat("0", n); rxparse.MayName(s) != (n+1 <= 24) {
			t.Errorf("a letter and %d digits", n)
		}
	}
	if rxparse.MayName(strings.Repeat("a", 1<<20)) {
		t.Error("very long")
	}
}

// P6.1, trees

func TestTreesByHand(t *testing.T) {
	none := api.Re{}
	for _, x := range []struct {
		s    string
		want api.Re
	}{
		{"", none}, {"a", a}, {"ab", cat(a, b)}, {"abc", cat(a, b, c)},
		{"a|b*", alt(a, rep(b, 0, -1))}, {"a|b|c", alt(a, b, c)}, {"ab|c", alt(cat(a, b), c)},
		{"|", alt(none, none)}, {"a|", alt(a, none)}, {"|a", alt(none, a)}, {"||", alt(none, none, none)}, {"a||b", alt(a, none, b)},
		{"()", none}, {"(())", none}, {"(a)", a}, {"(((a)))", a}, {"((a)b)", cat(a, b)}, {"a(bc)", cat(a, cat(b, c))}, {"(ab)c", cat(cat(a, b), c)},
		{"()a", cat(none, a)}, {"()()", cat(none, none)}, {"(|)", alt(none, none)}, {"(a|b)|c", alt(alt(a, b), c)}, {"a|(b|c)", alt(a, alt(b, c))},
		{"(a|b)c", cat(alt(a, b), c)}, {"a(|b)", cat(a, alt(none, b))},
		{"a*", rep(a, 0, -1)}, {"a+", rep(a, 1, -1)}, {"a?", rep(a, 0, 1)}, {"ab*", cat(a, rep(b, 0, -1))}, {"(ab)*", rep(cat(a, b), 0, -1)},
		{"(a*)*", rep(rep(a, 0, -1), 0, -1)}, {"(a*)", rep(a, 0, -1)}, {"()*", rep(none, 0, -1)}, {"(a|b)+", rep(alt(a, b), 1, -1)}, {"a*b+c?", cat(rep(a, 0, -1), rep(b, 1, -1), rep(c, 0, 1))},
		{"a{3}", rep(a, 3, 3)}, {"a{3,}", rep(a, 3, -1)}, {"a{3,5}", rep(a, 3, 5)}, {"a{0}", rep(a, 0, 0)}, {"a{0,0}", rep(a, 0, 0)}, {"a{0,}", rep(a, 0, -1)},
		{"a{1,1}", rep(a, 1, 1)}, {"a{64}", rep(a, 64, 64)}, {"a{64,}", rep(a, 64, -1)}, {"a{0,64}", rep(a, 0, 64)}, {"a{64,64}", rep(a, 64, 64)}, {"a{9,10}", rep(a, 9, 10)},
		{".", set(octs.Range(0, 255))}, {".*", rep(set(octs.Range(0, 255)), 0, -1)}, {"[]", one()}, {"[^]", set(octs.Range(0, 255))}, {"[]a", cat(one(), a)}, {"[^]*", rep(set(octs.Range(0, 255)), 0, -1)},
		{"[a]", a}, {"[ab]", one('a', 'b')}, {"[ba]", one('a', 'b')}, {"[aa]", a}, {"[a-a]", a}, {"[a-c]", one('a', 'b', 'c')}, {"[a-bc]", one('a', 'b', 'c')}, {"[ca-b]", one('a', 'b', 'c')},
		{"[a-cb-d]", one('a', 'b', 'c', 'd')}, {"[^a]", set(octs.Not(octs.Of('a')))}, {"[^a-z0]", set(octs.Not(octs.Any(octs.Range('a', 'z'), octs.Of('0'))))},
		{`[\^]`, one('^')}, {`[\-]`, one('-')}, {`[^\^]`, set(octs.Not(octs.Of('^')))}, {`[a\-c]`, one('a', '-', 'c')}, {`[\]\[]`, one('[', ']')}, {`[\t-\r]`, set(octs.Range(9, 13))},
		{`[\x00-\xff]`, set(octs.Range(0, 255))}, {`[\xfE-\xFf]`, one(254, 255)}, {`[a-\x63]`, one('a', 'b', 'c')}, {`[+\-]`, one('+', '-')}, {`[+-\-]`, one('+', ',', '-')}, {`[\--\/]`, one('-', '.', '/')},
		{"[|*+?{}().<>]", one([]byte("|*+?{}().<>")...)}, {"[(-*]", one('(', ')', '*')}, {"[,]", one(',')}, {"[ -~]", set(octs.Range(32, 126))},
		{`\n\r\t`, cat(one(10), one(13), one(9))}, {`\x0a`, one(10)}, {`\x41b`, cat(one('A'), b)}, {`\xAbc`, cat(one(0xab), c)}, {`\\`, one('\\')}, {`\/`, one('/')}, {`\**`, rep(one('*'), 0, -1)}, {`\{{2}`, rep(one('{'), 2, 2)},
		{"^-,\"", cat(one('^'), one('-'), one(','), one('"'))}, {"-*", rep(one('-'), 0, -1)}, {"^", one('^')}, {" ", one(' ')}, {"~", one('~')}, {"1,2", cat(one('1'), one(','), one('2'))},
		{"n", one('n')}, {"x41", cat(one('x'), one('4'), one('1'))}, {"A-Z", cat(one('A'), one('-'), one('Z'))},
	} {
		reads(t, x.s, nil, x.want)
	}
}

// atoms is the bytes that say themselves outside a class.
const atoms = " !\"#$%&',-0123456789:;=@ABCDEFGHIJKLMNOPQRSTUVWXYZ^_`abcdefghijklmnopqrstuvwxyz~"

// members is those that do in a class.
const members = " !\"#$%&'()*+,.0123456789:;<=>?@ABCDEFGHIJKLMNOPQRSTUVWXYZ_`abcdefghijklmnopqrstuvwxyz{|}~"

func TestEachByte(t *testing.T) {
	for x := range 256 {
		v := byte(x)
		s := string([]byte{v})
		switch {
		case strings.Contains(atoms, s):
			reads(t, s, nil, one(v))
			reads(t, "a"+s, nil, cat(a, one(v)))
			reads(t, "("+s+")", nil, one(v))
		case s == ".":
		case strings.Contains(`([<\`, s):
			syntax(t, s, 1)
			syntax(t, "a"+s, 2)
		case s == "|":
			reads(t, s, nil, alt(api.Re{}, api.Re{}))
		default:
			syntax(t, s, 0)
			syntax(t, "a|"+s, 2)
			if s != ")" {
				syntax(t, "("+s, 1)
			}
		}
		if strings.Contains(members, s) {
			reads(t, "["+s+"]", nil, one(v))
			reads(t, "[^"+s+"]", nil, set(octs.Not(octs.Of(v))))
			reads(t, "["+s+"-~]", nil, set(octs.Range(v, '~')))
			reads(t, "[ -"+s+"]", nil, set(octs.Range(' ', v)))
		} else if s != `\` && s != "]" {
			if s != "^" {
				syntax(t, "["+s+"]", 1)
			}
			syntax(t, "[^"+s+"]", 2)
			syntax(t, "[a-"+s+"]", 3)
		}
		if strings.Contains(signs, s) {
			reads(t, `\`+s, nil, one(v))
			reads(t, `[\`+s+"]", nil, one(v))
			reads(t, `[\`+s+`-\`+s+"]", nil, one(v))
		} else if strings.Contains("nrt", s) {
			reads(t, `\`+s, nil, one("\n\r\t"[strings.Index("nrt", s)]))
		} else if s != "x" {
			syntax(t, `\`+s, 1)
			syntax(t, `[\`+s+"]", 2)
			syntax(t, `[\x00-\`+s+"]", 7)
		}
	}
}

func TestHexDigits(t *testing.T) {
	const digits = "0123456789abcdefABCDEF"
	value := func(b byte) int {
		v, e := strconv.ParseUint(string([]byte{b}), 16, 8)
		if e != nil {
			return -1
		}
		return int(v)
	}
	for x := range 256 {
		high := value(byte(x))
		s := `\x` + string([]byte{byte(x)})
		if high < 0 {
			syntax(t, s, 2)
			syntax(t, s+"0", 2)
			syntax(t, `\x0`+s[2:], 3)
			syntax(t, `[`+s+`0]`, 3)
			continue
		}
		syntax(t, s, 3)
		for _, d := range []byte(digits) {
			v := byte(16*high + value(d))
			reads(t, s+string([]byte{d}), nil, one(v))
			reads(t, "["+s+string([]byte{d})+"]", nil, one(v))
			reads(t, s+string([]byte{d})+"0", nil, cat(one(v), one('0')))
		}
	}
}

func TestBounds(t *testing.T) {
	for m := range 100 {
		lo := strconv.Itoa(m)
		for _, tail := range []string{"}", ",}"} {
			s := "ab{" + lo + tail
			if m > 64 {
				syntax(t, s, 2)
				syntax(t, s+"!*)", 2)
				continue
			}
			hi := -1
			if tail == "}" {
				hi = m
			}
			reads(t, s, nil, cat(a, rep(b, m, hi)))
		}
		for n := range 100 {
			s := "a{" + lo + "," + strconv.Itoa(n) + "}"
			if m > 64 || n > 64 || n < m {
				syntax(t, s, 1)
			} else {
				reads(t, s, nil, rep(a, m, n))
			}
		}
	}
}

func TestPlacesOfBounds(t *testing.T) {
	for s, at := range map[string]int{
		"{": 0, "{1}": 0, "a|{1}": 2, "({1})": 1, "a{": 2, "a{}": 2, "a{,": 2, "a{,2}": 2, "a{ 1}": 2, "a{1 }": 3, "a{-1}": 2, "a{x}": 2, "a{1x}": 3,
		"a{1": 3, "a{12": 4, "a{123": 4, "a{123}": 4, "a{0": 3, "a{00": 3, "a{00}": 3, "a{01}": 3, "a{0x}": 3, "a{1,": 4, "a{1,x": 4, "a{1,,": 4, "a{1,2": 5, "a{1,2,": 5, "a{1,2,3}": 5,
		"a{1,23": 6, "a{1,234}": 6, "a{1,0": 5, "a{1,02}": 5, "a{0,00}": 5,
		// Numbers are looked at behind the } alone.
		"a{65": 4, "a{99x": 4, "a{65,": 5, "a{65,x": 5, "a{65,1": 6, "a{99,99": 7, "a{99,999}": 7, "a{3,2": 5, "a{3,2x": 5, "a{3,2}": 1, "a{65}": 1, "a{65,}": 1, "a{65,65}": 1, "a{0,65}": 1, "a{64,63}": 1, "a{10,9}": 1,
		"bca{3,2}": 3, "a{1}b{2,1}": 5, "(a{2,1}": 2, "a{1}{1}": 4, "a{1}*": 4, "a*{1}": 2, "a{1}}": 4, "a}": 1, "a{1}{": 4, "a{2,1}*": 1, "a{2,1}\x00": 1,
	} {
		syntax(t, s, at)
	}
}

func TestPlacesByHand(t *testing.T) {
	for s, at := range map[string]int{
		"*": 0, "+": 0, "?": 0, "a**": 2, "a*+": 2, "a+?": 2, "a??": 2, "a*?b": 2, "|*": 1, "a|*": 2, "(*": 1, "(*)": 1, "(|+)": 2, "a***": 2, "()**": 3,
		"(": 1, "(a": 2, "((a)": 4, "a(b|": 4, ")": 0, "a)": 1, "(a))": 3, "()a)b": 3, "a|)": 2, "]": 0, "a]": 1, "}": 0, ">": 0, "a>": 1, "/": 0, "a/b": 1, "(/)": 1,
		"[": 1, "[^": 2, "[a": 2, "[a-": 3, "[a-b": 4, "[^a-": 4, "[a-]": 3, "[-a]": 1, "[-]": 1, "[^-]": 2, "[^^]": 2, "[a^]": 2, "[a-^]": 3, "[[]": 1, "[a[]": 2, "[a-[]": 3, "[/]": 1, "[a/]": 2, "[a-/]": 3, "[a-b-c]": 4, "[a--]": 3, "[a-b-]": 4,
		"[z-a]": 3, "[b-a]": 3, "[b-a": 3, "[b-a!": 3, "[b-a\x00": 3, "[xb-a]": 4, "[^b-a]": 4, "x[b-a]": 4, "[a-bd-c]": 6, `[b-\x61]`: 3, `[b-\n]`: 3, `[\xff-\xfe]`: 6, `[\xff-a]`: 6, `[\--\+]`: 4, `[\--,]`: 4,
		`[b-\`: 4, `[b-\x`: 5, `[b-\x6`: 6, `[b-\x6g]`: 6, `[b-\q]`: 4, "[]]": 2, "[^]]": 3, "[a]]": 3, "[\n]": 1, "[a-\x7f]": 3,
		`\`: 1, `a\`: 2, `\a`: 1, `\0`: 1, `\N`: 1, `\X00`: 1, `\ `: 1, `\"`: 1, `\,`: 1, `\x`: 2, `\xg`: 2, `\x0`: 3, `\x0g`: 3, `\x 0`: 2, `\x-1`: 2, `(\`: 2, `(\x)`: 3, `[\`: 2, `[\x`: 3, `[\x4`: 4, `[\x]`: 3, `[\a]`: 2, `[\ ]`: 2, "\\\n": 1,
		"<": 1, "<>": 1, "<0": 1, "<0>": 1, "<A>": 1, "<a": 2, "<a-": 2, "<aB>": 2, "<a <": 2, "<a<": 2, "<a|": 2, "< a>": 1, "a<b": 3, "<abc": 4, "<<": 1,
		"\n": 0, "a\nb": 1, "\x1f": 0, "\x7f": 0, "é": 0, "aé": 1, "\xff": 0, "a*\t": 2, "\x00": 0, "(\r": 1,
	} {
		syntax(t, s, at)
	}
}

func TestLongNames(t *testing.T) {
	name := "a" + strings.Repeat("0", 23)
	frags := []api.Frag{{Name: name, Re: a}, {Name: name + "0", Re: b}}
	reads(t, "<"+name+">", frags, a)
	refuses(t, "<"+name, frags, 25, api.ErrSyntax)
	refuses(t, "<"+name+"0", frags, 25, api.ErrSyntax)
	refuses(t, "<"+name+"0>", frags, 25, api.ErrSyntax)
	refuses(t, "<"+name[:23]+"1>", frags, 0, api.ErrName)
}

// P6.1, fragments

func TestFragments(t *testing.T) {
	frags := []api.Frag{
		{Name: "d", Re: set(octs.Range('0', '9'))}, {Name: "two", Re: cat(a, b)}, {Name: "d", Re: c}, {Name: "e"},
		{Name: "", Re: c}, {Name: "B", Re: c}, {Name: "0", Re: c}, {Name: "a b", Re: c}, {Name: "bad", Re: api.Re{Kind: 9}},
	}
	d := frags[0].Re
	for s, want := range map[string]api.Re{
		"<d>": d, "<d>+": rep(d, 1, -1), "<d><d>": cat(d, d), "<two>": cat(a, b), "<two>c": cat(cat(a, b), c), "(<two>)c": cat(cat(a, b), c), "<two>{2}": rep(cat(a, b), 2, 2),
		"<d>|<two>": alt(d, cat(a, b)), "<e>": {}, "<e>a": cat(api.Re{}, a), "[<d>]": one('<', 'd', '>'), `\<d\>`: cat(one('<'), one('d'), one('>')),
	} {
		reads(t, s, frags, want)
	}
	for s, at := range map[string]int{
		"<x>": 0, "a<x>": 1, "<d><x>": 3, "<two0>": 0, "<tw>": 0, "(<x>": 1, "<x><y>": 0, "<x>)": 0, "<x>**": 0, "<x>\x00": 0, "<bad><x>": 5, "a|<x>": 2, "<x>{3,2}": 0, strings.Repeat("(", 30) + "<x>(": 30,
	} {
		refuses(t, s, frags, at, api.ErrName)
	}
	for s, at := range map[string]int{"<x": 2, "<x|y>": 2, "<B>": 1, "<>": 1, "<a b>": 2, "a{3,2}<x>": 1, "*<x>": 0, "<bad>)": 5} {
		refuses(t, s, frags, at, api.ErrSyntax)
	}
	refuses(t, "<d>", nil, 0, api.ErrName)
	refuses(t, "<d>", []api.Frag{}, 0, api.ErrName)
}

// P6.1, places by the chapter's words

// alphabet has each sign, bytes of each kind of part, and bytes that can't stand.
const alphabet = signs + ",019axnf\n"

// told asks for the place and the error that the oracle tells.
func told(t *testing.T, s string, frags []api.Frag, names ...string) {
	t.Helper()
	at, e := expected(s, names...)
	if e != api.OK {
		refuses(t, s, frags, at, e)
	} else if _, p, got := rxparse.Parse(s, frags); p != 0 || got != api.OK {
		t.Errorf("%q: %d, %d, want a tree", s, p, got)
	}
}

// allTold asks for all texts that begin with s and go on with at most n of some bytes, but for those in which another error is told already.
func allTold(t *testing.T, s, bytes string, n int) {
	t.Helper()
	frags := []api.Frag{{Name: "a", Re: a}}
	told(t, s, frags, "a")
	at, e := expected(s, "a")
	if n == 0 || t.Failed() || e != api.OK && (e != api.ErrSyntax || at < len(s)) {
		return
	}
	for i := range len(bytes) {
		allTold(t, s+bytes[i:i+1], bytes, n-1)
	}
}

func TestPlacesOfAllShortTexts(t *testing.T) {
	allTold(t, "", alphabet, 3)
	allTold(t, "", "a|*()", 6)
	allTold(t, "a", "a{}*0,16", 7)
	allTold(t, "[", `]^-ac\nx4`, 5)
	allTold(t, `[\x61-`, `]\x0267-a`, 5)
	allTold(t, "<", "ax0>A<|", 5)
	allTold(t, "", `\xn4aAg[]`, 5)
}

func TestPlacesOfSpoiltTexts(t *testing.T) {
	w := writer{Rand: rand.New(rand.NewSource(6)), frags: []api.Frag{{Name: "d", Re: a}, {Name: "e0", Re: cat(a, b)}}}
	for range 30000 {
		s, _ := w.alternatives(4)
		if len(s) > 200 {
			continue
		}
		for range 1 + w.Intn(2) {
			at, more := w.Intn(len(s)+1), string([]byte{alphabet[w.Intn(len(alphabet))]})
			s = s[:at] + []string{more, ""}[w.Intn(2)] + s[min(len(s), at+w.Intn(2)):]
		}
		told(t, s, w.frags, "d", "e0")
		if t.Failed() {
			t.FailNow()
		}
	}
}

// What stands behind the first error doesn't count.
func TestWhatIsBehindTheFirstError(t *testing.T) {
	for _, s := range []string{"a**", "a)", "[z-a", "a{3,2}", `\q`, "<x>", "<A", "a{01", "a/", strings.Repeat("(", 31)} {
		_, at, e := rxparse.Parse(s, nil)
		if e == api.OK {
			t.Fatalf("%q", s)
		}
		for x := range 256 {
			refuses(t, s+string([]byte{byte(x)}), nil, at, e)
		}
		refuses(t, s+strings.Repeat("a", 350), nil, at, e)
	}
}

// P6.1, limits

func TestTextLimit(t *testing.T) {
	long := "[" + strings.Repeat("ab", 199) + "]"
	if len(long) != 400 {
		t.Fatal(len(long))
	}
	reads(t, long, nil, one('a', 'b'))
	refuses(t, "[a"+long[1:], nil, 0, api.ErrMany)
	refuses(t, strings.Repeat("a", 401), nil, 0, api.ErrMany)
	refuses(t, "*"+strings.Repeat("a", 399), nil, 0, api.ErrSyntax)
	refuses(t, strings.Repeat("a", 399)+"*", nil, 0, api.ErrMany)
	// The text's length is told ahead of what stands in it.
	for _, s := range []string{")", "*", "<x>", "(((((((((((((((((((((((((((((((", "\x00"} {
		refuses(t, s+strings.Repeat("a", 401-len(s)), nil, 0, api.ErrMany)
	}
	refuses(t, "["+strings.Repeat("a", 398)+"b", nil, 400, api.ErrSyntax)
	refuses(t, strings.Repeat("\x00", 1<<20), nil, 0, api.ErrMany)
}

func TestOpenLimit(t *testing.T) {
	nest := func(n int, s string) string { return strings.Repeat("(", n) + s + strings.Repeat(")", n) }
	reads(t, nest(30, ""), nil, api.Re{})
	reads(t, nest(30, "a"), nil, a)
	reads(t, nest(30, "a")+nest(30, "b"), nil, cat(a, b))
	reads(t, strings.Repeat("()", 100), nil, cat(make([]api.Re, 100)...))
	reads(t, nest(29, "()()"), nil, cat(api.Re{}, api.Re{}))
	refuses(t, nest(31, "a"), nil, 30, api.ErrDeep)
	refuses(t, strings.Repeat("(", 31), nil, 30, api.ErrDeep)
	refuses(t, strings.Repeat("(", 400), nil, 30, api.ErrDeep)
	refuses(t, strings.Repeat("(", 30), nil, 30, api.ErrSyntax)
	refuses(t, "a"+nest(30, "bc(d)"), nil, 33, api.ErrDeep)
	refuses(t, "()"+nest(29, "()(())"), nil, 34, api.ErrDeep)
	refuses(t, nest(30, "*("), nil, 30, api.ErrSyntax)
	reads(t, nest(30, "[(]"), nil, one('('))
	reads(t, nest(30, `\(`), nil, one('('))
}

func TestNodeLimit(t *testing.T) {
	for n := 290; n <= 310; n++ {
		s := strings.Repeat("a", n)
		if n+1 > 300 {
			refuses(t, s, nil, 0, api.ErrMany)
			refuses(t, s+")", nil, n, api.ErrSyntax)
			continue
		}
		reads(t, s, nil, cat(slices.Repeat([]api.Re{a}, n)...))
	}
	reads(t, strings.Repeat("|", 298), nil, alt(make([]api.Re, 299)...))
	refuses(t, strings.Repeat("|", 299), nil, 0, api.ErrMany)
	refuses(t, strings.Repeat("|", 400), nil, 0, api.ErrMany)
	reads(t, strings.Repeat("a*", 149), nil, cat(slices.Repeat([]api.Re{rep(a, 0, -1)}, 149)...))
	refuses(t, strings.Repeat("a*", 150), nil, 0, api.ErrMany)
	// Nodes of fragments count each time that one stands.
	ten := []api.Frag{{Name: "t", Re: cat(slices.Repeat([]api.Re{a}, 9)...)}}
	reads(t, strings.Repeat("<t>", 29)+"bbbbbbbbb", ten, cat(append(slices.Repeat([]api.Re{ten[0].Re}, 29), b, b, b, b, b, b, b, b, b)...))
	refuses(t, strings.Repeat("<t>", 29)+"bbbbbbbbbb", ten, 0, api.ErrMany)
	refuses(t, strings.Repeat("<t>", 30), ten, 0, api.ErrMany)
}

// chain is a tree of so many nodes, each within the one ahead.
func chain(n int) api.Re {
	re := a
	for range n - 1 {
		re = rep(re, 0, -1)
	}
	return re
}

func TestDeepLimit(t *testing.T) {
	stars := func(n int) string { return strings.Repeat("(", n-1) + "a*" + strings.Repeat(")*", n-1) }
	reads(t, stars(29), nil, chain(30))
	refuses(t, stars(30), nil, 0, api.ErrDeep)
	refuses(t, stars(31), nil, 0, api.ErrDeep)
	refuses(t, "b"+stars(29), nil, 0, api.ErrDeep)
	reads(t, "b"+stars(28), nil, cat(b, chain(29)))
	frags := []api.Frag{{Name: "c", Re: chain(30)}, {Name: "d", Re: chain(29)}, {Name: "e", Re: chain(300)}, {Name: "f", Re: chain(301)}, {Name: "g", Re: chain(31)}}
	reads(t, "<c>", frags, chain(30))
	reads(t, "<d>*", frags, chain(30))
	for _, s := range []string{"<c>*", "<c>|", "a<c>", "<d>*|a", "(<d>*)*", "<e>", "<g>", "<g>a"} {
		refuses(t, s, frags, 0, api.ErrDeep)
	}
	// That it has too many nodes is told ahead of how deep it is.
	for _, s := range []string{"<f>", "<e>*", "<e><g>", "<g>" + strings.Repeat("a", 269)} {
		refuses(t, s, frags, 0, api.ErrMany)
	}
	refuses(t, "<g>"+strings.Repeat("a", 268), frags, 0, api.ErrDeep)
	refuses(t, "<e>)", frags, 3, api.ErrSyntax)
}

func TestFragmentsThatMayNotBe(t *testing.T) {
	wrong := []api.Re{
		{Kind: -1}, {Kind: 5}, {Kind: 1 << 62}, {Set: octs.Of(1)}, {Min: 1}, {Max: -1}, {Kind: api.ReByte, Min: 1}, {Kind: api.ReByte, Max: 1}, {Kind: api.ReByte, Sub: []api.Re{a}}, {Sub: []api.Re{a}},
		cat(), cat(a), alt(), alt(a), {Kind: api.ReCat, Sub: []api.Re{a, b}, Set: octs.Of(1)}, {Kind: api.ReAlt, Sub: []api.Re{a, b}, Max: 1},
		{Kind: api.ReRep}, {Kind: api.ReRep, Sub: []api.Re{a, b}, Max: 1}, rep(a, -1, 1), rep(a, 2, 1), rep(a, 65, -1), rep(a, 65, 65), rep(a, 0, 65), rep(a, 0, -2), cat(a, rep(a, 1, 0)),
	}
	for _, re := range wrong {
		frags := []api.Frag{{Name: "w", Re: re}, {Name: "e", Re: cat(chain(31), re)}, {Name: "f", Re: alt(chain(300), re)}, {Name: "a", Re: a}}
		for _, s := range []string{"<w>", "<w>*", "a<w>b", "(<w>|a)", "<a><w>"} {
			refuses(t, s, frags, 0, api.ErrSyntax)
		}
		refuses(t, "<e>", frags, 0, api.ErrDeep)
		refuses(t, "<f>", frags, 0, api.ErrMany)
		refuses(t, "<w>**", frags, 4, api.ErrSyntax)
		refuses(t, "<w><b>", frags, 3, api.ErrName)
		reads(t, "<a>", frags, a) // what doesn't stand in the text isn't looked at
	}
	// A list that is empty, not nil, is none.
	reads(t, "<o>a", []api.Frag{{Name: "o", Re: api.Re{Sub: []api.Re{}}}}, cat(api.Re{}, a))
}

// ring is no tree: it has itself as a Sub.
func ring() api.Re {
	l := make([]api.Re, 2)
	l[0], l[1] = api.Re{Kind: api.ReCat, Sub: l}, api.Re{Kind: api.ReAlt, Sub: l}
	return l[0]
}

func TestGreatFragments(t *testing.T) {
	shared := a
	for range 60 {
		shared = cat(shared, shared)
	}
	frags := []api.Frag{
		{Name: "wide", Re: alt(make([]api.Re, 1<<20)...)}, {Name: "deep", Re: chain(1 << 20)}, {Name: "shared", Re: shared}, {Name: "ring", Re: ring()}, {Name: "a", Re: a},
	}
	for _, name := range []string{"<wide>", "<deep>", "<shared>", "<ring>"} {
		refuses(t, name, frags, 0, api.ErrMany)
		refuses(t, name+"*", frags, 0, api.ErrMany)
		refuses(t, "a("+name+"|)", frags, 0, api.ErrMany)
		refuses(t, strings.Repeat(name, 40), frags, 0, api.ErrMany)
		refuses(t, name+"<b>", frags, len(name), api.ErrName)
	}
	reads(t, "<a>", frags, a)
	var many []api.Frag
	for i := range 1000 {
		many = append(many, api.Frag{Name: "n" + strconv.Itoa(i), Re: one(byte(i))})
	}
	reads(t, "<n999>", many, one(999%256))
	refuses(t, "<n1000>", many, 0, api.ErrName)
}

// P6.2

func TestWrittenTexts(t *testing.T) {
	frags := []api.Frag{{Name: "d", Re: set(octs.Range('0', '9'))}, {Name: "two", Re: cat(a, rep(b, 0, 3))}, {Name: "z9"}}
	w := writer{Rand: rand.New(rand.NewSource(1)), frags: frags}
	read, most := 0, 0
	for range 20000 {
		s, want := w.alternatives(w.Intn(8))
		if len(s) > 398 || nodes(want) > 300 || deep(want) > 30 {
			continue
		}
		reads(t, s, frags, want)
		reads(t, "("+s+")", frags, want)
		if t.Failed() {
			t.FailNow()
		}
		read, most = read+1, max(most, nodes(want))
	}
	if read < 10000 || most < 100 {
		t.Error("too few texts:", read, most)
	}
}

func TestBetweenParentheses(t *testing.T) {
	for _, s := range []string{"", "a", "ab", "a|b", "|", "a*", "(a)", "()", "[a-c]", "[]", ".", `\)`, `\x29`, "<d>", "a{2,3}", "a{3,2}", "[z-a]", "a**", "*", "<x>", `\q`, "a/", "[^^]", "a{01}", "\x00"} {
		frags := []api.Frag{{Name: "d", Re: cat(a, b)}}
		re, at, e := rxparse.Parse(s, frags)
		for n := 1; n < 30; n++ {
			in, p, got := rxparse.Parse(strings.Repeat("(", n)+s+strings.Repeat(")", n), frags)
			if got != e || e == api.OK && p != 0 || e != api.OK && p != at+n || !rx.Same(in, re) {
				t.Errorf("%q within %d: %v, %d, %d", s, n, in, p, got)
			}
		}
	}
}

// The rules that hold everywhere

// copied is re in new memory.
func copied(re api.Re) api.Re {
	subs := re.Sub
	re.Sub = nil
	for _, sub := range subs {
		re.Sub = append(re.Sub, copied(sub))
	}
	return re
}

// scribble spoils all that re's lists hold, and the room behind them.
func scribble(re *api.Re) {
	for i := range re.Sub {
		scribble(&re.Sub[i])
	}
	room := re.Sub[:cap(re.Sub)]
	for i := range room {
		room[i] = api.Re{Kind: 77}
	}
}

func TestMemory(t *testing.T) {
	room := []api.Re{a, rep(cat(a, b), 0, 1), c, c}
	frags := []api.Frag{{Name: "f", Re: api.Re{Kind: api.ReCat, Sub: room[:2]}}, {Name: "g", Re: c}}[:1]
	asked := []string{"<f>", "<f><f>", "<f>|<f>*", "(<f>)", "<f>a", "(<f>|a)*"}
	for _, s := range asked {
		want := map[string]api.Re{"<f>": frags[0].Re, "(<f>)": frags[0].Re, "<f><f>": cat(frags[0].Re, frags[0].Re), "<f>|<f>*": alt(frags[0].Re, rep(frags[0].Re, 0, -1)),
			"<f>a": cat(frags[0].Re, a), "(<f>|a)*": rep(alt(frags[0].Re, a), 0, -1)}[s]
		want = copied(want)
		first, _, _ := rxparse.Parse(s, frags)
		second, _, _ := rxparse.Parse(s, frags)
		for i := range first.Sub { // of one answer no two lists share any
			scribble(&first.Sub[i])
			for j := range first.Sub {
				if j > i && !rx.Same(first.Sub[j], want.Sub[j]) {
					t.Errorf("%q: Subs share memory", s)
				}
			}
		}
		scribble(&first)
		if !rx.Same(second, want) {
			t.Errorf("%q: two answers share memory", s)
		}
		reads(t, s, frags, want)
		if !rx.Same(room[0], a) || !rx.Same(room[1], rep(cat(a, b), 0, 1)) || !rx.Same(room[2], c) || !rx.Same(frags[:2][1].Re, c) {
			t.Fatalf("%q: a fragment is changed", s)
		}
	}
	kept, _, _ := rxparse.Parse("<f>", frags)
	scribble(&frags[0].Re)
	if !rx.Same(kept, cat(a, rep(cat(a, b), 0, 1))) {
		t.Error("an answer shares memory with a fragment")
	}
}

func TestAnyBytesEnd(t *testing.T) {
	source := rand.New(rand.NewSource(3))
	frags := []api.Frag{{Name: "a", Re: a}, {Name: "w", Re: api.Re{Kind: 9}}}
	for range 50000 {
		s := make([]byte, source.Intn(40))
		for i := range s {
			s[i] = alphabet[source.Intn(len(alphabet))]
			if source.Intn(20) == 0 {
				s[i] = byte(source.Intn(256))
			}
		}
		re, at, e := rxparse.Parse(string(s), frags)
		again, p, f := rxparse.Parse(string(s), frags)
		if at != p || e != f || !rx.Same(re, again) {
			t.Fatalf("%q: another answer", s)
		}
		if e == api.OK && (at != 0 || !rx.May(re)) || e != api.OK && (at < 0 || at > len(s) || !reflect.DeepEqual(re, api.Re{})) {
			t.Fatalf("%q: %v, %d, %d", s, re, at, e)
		}
	}
}
