package rules_test

import (
	"fmt"
	"math/big"
	"math/rand"
	"regexp"
	"slices"
	"strings"

	"hackle/api"
	"hackle/rxparse"
)

// shown is a file as a failed test tells it; of two files that are alike it is one text, as nil and empty lists are one.
func shown(f api.File) string { return fmt.Sprintf("%+v", f) }

// The model is the chapter's words: it goes along a line by each form that a line may have, and keeps the one by which most of the line can be read.

// verdict is a place and an error, and how far a text was read when it was told.
type verdict struct {
	at   int
	e    api.Errno
	told int
}

// forms is each form of a line: what is in capitals stands for what the chapter calls so, each blank for one.
func forms() []string {
	l := []string{"frag NAME RE", "mode NAME limit LIMIT", "mode NAME limit LIMIT end"}
	for _, shape := range []string{"RE", "RE dec MOST AFTER", "RE hex MOST AFTER"} {
		for _, next := range []string{"-> MODE", "count ADD max MAX -> MODE", "until TEXT max MAX -> MODE", "until own max MAX -> MODE"} {
			l = append(l, "rule NAME "+shape+" "+next)
		}
	}
	return l
}

var allForms = forms()

// goalModel is where the name of a mode stands, and of which rule.
type goalModel struct {
	name           string
	at, mode, rule int
}

// model is what was read of a text so far.
type model struct {
	text  string
	file  api.File
	goals []goalModel
}

// lineModel is a line as it is read by one form.
type lineModel struct {
	m        *model
	from, to int
	form     string
	at       int // how far it is read
	name     string
	numbers  map[string]int64
	trees    map[string]api.Re
	delim    string
	goal     goalModel
}

func parseModel(text string) (api.File, int, api.Errno) {
	if len(text) > 8000 {
		return api.File{}, 0, api.ErrMany
	}
	m := &model{text: text}
	for from := 0; from < len(text); {
		to := len(text)
		if n := strings.IndexByte(text[from:], '\n'); n >= 0 {
			to = from + n
		}
		if v := m.line(from, to); v.e != api.OK {
			return api.File{}, v.at, v.e
		}
		from = to + 1
	}
	if len(m.file.Modes) == 0 {
		return api.File{}, len(text), api.ErrEmpty
	}
	for _, g := range m.goals {
		g := g
		at := slices.IndexFunc(m.file.Modes, func(x api.Mode) bool { return x.Name == g.name })
		if at < 0 {
			return api.File{}, g.at, api.ErrName
		}
		m.file.Modes[g.mode].Rules[g.rule].Next.Mode = at
	}
	return m.file, 0, api.OK
}

func (m *model) line(from, to int) verdict {
	if from == to {
		return verdict{}
	}
	if m.text[from] == '#' {
		for at := from; at < to; at++ {
			if bad(m.text[at]) {
				return verdict{at: at, e: api.ErrSyntax}
			}
		}
		return verdict{}
	}
	far := verdict{told: -1}
	for _, form := range allForms {
		l := &lineModel{m: m, from: from, to: to, form: form, at: from, numbers: map[string]int64{}, trees: map[string]api.Re{}}
		v := l.read()
		if v.e == api.OK {
			l.keep()
			return v
		}
		if v.told > far.told {
			far = v
		}
	}
	return far
}

func bad(b byte) bool { return b < 32 || b > 126 }

func (l *lineModel) read() verdict {
	words := strings.Split(l.form, " ")
	for i, w := range words {
		if i > 0 {
			if v := l.literal(" "); v.e != api.OK {
				return v
			}
		}
		if i == 1 {
			if e := l.refused(); e != api.OK {
				return verdict{l.from, e, l.at}
			}
		}
		if v := l.word(w); v.e != api.OK {
			return v
		}
	}
	if l.at < l.to {
		return l.syntax(l.at)
	}
	return verdict{}
}

func (l *lineModel) syntax(at int) verdict { return verdict{at, api.ErrSyntax, at} }

// refused is the error of a line as such.
func (l *lineModel) refused() api.Errno {
	f := l.m.file
	switch {
	case l.form[0] == 'r' && len(f.Modes) == 0:
		return api.ErrState
	case l.form[0] == 'r' && len(f.Modes[len(f.Modes)-1].Rules) >= 40, l.form[0] == 'm' && len(f.Modes) >= 16, l.form[0] == 'f' && len(f.Frags) >= 40:
		return api.ErrMany
	}
	return api.OK
}

func (l *lineModel) word(w string) verdict {
	switch w {
	case "NAME", "MODE":
		return l.readName(w)
	case "LIMIT", "MOST", "ADD", "MAX":
		return l.readNumber(w)
	case "RE", "AFTER":
		return l.readTree(w)
	case "TEXT":
		return l.readText()
	}
	return l.literal(w)
}

func (l *lineModel) literal(w string) verdict {
	for i := range len(w) {
		if l.at >= l.to || l.m.text[l.at] != w[i] {
			return l.syntax(l.at)
		}
		l.at++
	}
	return verdict{}
}

// part is what of the line's rest a shape takes.
func (l *lineModel) part(shape *regexp.Regexp) string {
	return shape.FindString(l.m.text[l.at:l.to])
}

// endsBad tells whether the place is that of a byte that can't stand in any line.
func (l *lineModel) endsBad(at int) bool {
	return at < l.to && bad(l.m.text[at])
}

var (
	nameShape   = regexp.MustCompile(`^[a-z][a-z0-9]{0,23}`)
	numberShape = regexp.MustCompile(`^(0|[1-9][0-9]*)`)
	reShape     = regexp.MustCompile(`^/([ -.0-\[\]-~]|\\[ -~])*`)
	roughShape  = regexp.MustCompile(`^"([ !#-\[\]-~]|\\[ -~])*`)
	textShape   = regexp.MustCompile(`^"([ !#-\[\]-~]|\\(["\\nrt]|x[0-9a-fA-F]{2}))*`)
	escapeBegun = regexp.MustCompile(`^\\(x[0-9a-fA-F]?)?`)
)

func (l *lineModel) readName(w string) verdict {
	name := l.part(nameShape)
	from := l.at
	l.at += len(name)
	switch {
	case name == "" || l.endsBad(l.at):
		return l.syntax(l.at)
	case w == "MODE":
		l.goal = goalModel{name: name, at: from}
	case l.has(name):
		return verdict{from, api.ErrTwice, l.at}
	default:
		l.name = name
	}
	return verdict{}
}

// has tells whether a thing of the line's kind has the name.
func (l *lineModel) has(name string) bool {
	f := l.m.file
	switch l.form[0] {
	case 'f':
		return slices.ContainsFunc(f.Frags, func(x api.Frag) bool { return x.Name == name })
	case 'm':
		return slices.ContainsFunc(f.Modes, func(x api.Mode) bool { return x.Name == name })
	}
	return slices.ContainsFunc(f.Modes[len(f.Modes)-1].Rules, func(x api.Rule) bool { return x.Name == name })
}

func (l *lineModel) readNumber(w string) verdict {
	digits := l.part(numberShape)
	from := l.at
	l.at += len(digits)
	if digits == "" || l.endsBad(l.at) {
		return l.syntax(l.at)
	}
	n, _ := new(big.Int).SetString(digits, 10)
	most := map[string]int64{"LIMIT": 4096, "MOST": 9223372036854775807, "ADD": 1099511627776, "MAX": 1099511627776}[w]
	if n.Cmp(big.NewInt(most)) > 0 || w == "LIMIT" && n.Sign() == 0 {
		return verdict{from, api.ErrRange, l.at}
	}
	l.numbers[w] = n.Int64()
	return verdict{}
}

// closed goes on behind a part that ends with a sign, or tells the place at which it ends without.
func (l *lineModel) closed(shape *regexp.Regexp, sign byte) (string, int, bool) {
	part := l.part(shape)
	end := l.at + len(part)
	if part == "" || end >= l.to || l.m.text[end] != sign {
		if part != "" && end < l.to && l.m.text[end] == '\\' {
			end++
		}
		return "", end, false
	}
	return part[1:], end, true
}

func (l *lineModel) readTree(w string) verdict {
	s, end, ok := l.closed(reShape, '/')
	if !ok {
		return l.syntax(end)
	}
	re, at, e := rxparse.Parse(s, l.m.file.Frags)
	if e != api.OK {
		return verdict{l.at + 1 + at, e, end + 1}
	}
	l.at, l.trees[w] = end+1, re
	return verdict{}
}

func (l *lineModel) readText() verdict {
	if _, end, _ := l.closed(roughShape, '"'); l.endsBad(end) {
		return verdict{end, api.ErrSyntax, end}
	}
	s, n, e := textModel(l.m.text[l.at:l.to])
	if e != api.OK {
		return l.syntax(l.at + n)
	}
	from := l.at
	l.at += n
	if len(s) < 1 || len(s) > 64 {
		return verdict{from, api.ErrRange, l.at}
	}
	l.delim = s
	return verdict{}
}

// textModel is what layer 13's Text says.
func textModel(s string) (string, int, api.Errno) {
	part := textShape.FindString(s)
	n := len(part)
	if part == "" || n == len(s) || s[n] != '"' {
		if part != "" {
			n += len(escapeBegun.FindString(s[n:]))
		}
		return "", n, api.ErrSyntax
	}
	var bytes []byte
	for l := part[1:]; l != ""; {
		size := 1
		b := l[0]
		if b == '\\' {
			size = 2
			switch b = l[1]; b {
			case 'n', 'r', 't':
				b = map[byte]byte{'n': 10, 'r': 13, 't': 9}[b]
			case 'x':
				size = 4
				v, _ := new(big.Int).SetString(l[2:4], 16)
				b = byte(v.Int64())
			}
		}
		bytes = append(bytes, b)
		l = l[size:]
	}
	return string(bytes), n + 1, api.OK
}

// keep puts what the line says into the file.
func (l *lineModel) keep() {
	f := &l.m.file
	switch l.form[0] {
	case 'f':
		f.Frags = append(f.Frags, api.Frag{Name: l.name, Re: l.trees["RE"]})
		return
	case 'm':
		f.Modes = append(f.Modes, api.Mode{Name: l.name, Limit: int(l.numbers["LIMIT"]), End: strings.HasSuffix(l.form, " end")})
		return
	}
	x := api.Rule{Name: l.name, Before: l.trees["RE"], Most: uint64(l.numbers["MOST"]), After: l.trees["AFTER"]}
	x.Next = api.Next{Add: int(l.numbers["ADD"]), Max: int(l.numbers["MAX"]), Delim: l.delim, Own: strings.Contains(l.form, " own ")}
	for word, base := range map[string]int{" dec ": 10, " hex ": 16} {
		if strings.Contains(l.form, word) {
			x.Base = base
		}
	}
	for word, kind := range map[string]int{" count ": 1, " until ": 2} {
		if strings.Contains(l.form, word) {
			x.Next.Kind = kind
		}
	}
	last := &f.Modes[len(f.Modes)-1]
	l.goal.mode, l.goal.rule = len(f.Modes)-1, len(last.Rules)
	l.m.goals = append(l.m.goals, l.goal)
	last.Rules = append(last.Rules, x)
}

// chance makes things at random.
type chance struct{ *rand.Rand }

func newChance(seed int64) chance { return chance{rand.New(rand.NewSource(seed))} }

func (c chance) of(l ...string) string { return l[c.Intn(len(l))] }

// mostly is one of good, but once in some times one of wrong.
func (c chance) mostly(often int, good, wrong []string) string {
	if c.Intn(often) == 0 {
		return c.of(wrong...)
	}
	return c.of(good...)
}

// wild tells how often something wrong stands: once in so many times.
type writer struct {
	chance
	wild int
}

func (w writer) name() string {
	if w.Intn(w.wild) == 0 {
		return w.of("", "A", "0", "a_", "q\t", "a\x00", strings.Repeat("n", 25), "é", "a ")
	}
	if w.Intn(3) == 0 {
		return w.of("a", "b", strings.Repeat("n", 24), "m0")
	}
	return w.of("a", "b", "c", "d", "e", "f", "g", "h") + w.of("", "0", "1", "2", "z", "9q")
}

func (w writer) number() string {
	return w.mostly(w.wild, []string{"0", "1", "7", "10", "99", "4095", "4096", "1099511627776"},
		[]string{"", "00", "05", "-1", "+1", "4097", "1099511627777", "9223372036854775807", "9223372036854775808", "99999999999999999999999999", "1x", "1\t", "0\x7f", "4097\n", "x"})
}

func (w writer) limit() string {
	return w.mostly(w.wild, []string{"1", "2", "9", "1000", "4096"}, []string{"0", "00", "05", "4097", "", "0\t", "9999999999999999999999", "1 ", "0 end", "5 end ", "5end", "0\n"})
}

func (w writer) tree() string {
	return "/" + w.mostly(w.wild, []string{"", "a", "ab*", "[0-9]+", `\/`, `\\`, `a\\\/b`, "(a|b){2}", `\x0d\n`, ".", "[^ ]", `"`, "a b"},
		[]string{"<a>", "<b>", "<c>", "a**", "[z-a]", `\`, `\\/`, "a/b", "[/]", "(", "\x01", "a\n", "\\\x80", "<zz>\t", `\q`, "é", "<a>[", strings.Repeat("a", 401), strings.Repeat("a", 300)}) + "/"
}

func (w writer) text() string {
	return `"` + w.mostly(w.wild, []string{"a", "--", `\r\n`, `\"`, `\\`, `\x00\xfF`, `\t`, " ", "/", strings.Repeat("x", 64)},
		[]string{"", `\q`, `\x1`, `\x`, `\`, "\t", "\\\n", strings.Repeat("x", 65), strings.Repeat(`\x00`, 64), strings.Repeat("x", 65) + "\x00", `\q` + "\t", `\q\"` + "\x7f", `\x"` + "\t", `a"b`, strings.Repeat("x", 65) + `\q`, "é"}) + `"`
}

func (w writer) line() string {
	switch w.Intn(w.wild + 8) {
	case 0:
		return ""
	case 1:
		return w.of("#", "# a", "##", "# mode a limit 5", "#\t", "#é")
	case 2, 3:
		return "frag " + w.name() + " " + w.tree()
	case 4:
		return "mode " + w.name() + " limit " + w.limit() + w.of("", " end")
	}
	shape := w.tree()
	if w.Intn(2) == 0 {
		shape += " " + w.of("dec", "hex") + " " + w.number() + " " + w.tree()
	}
	next := w.of("", "", "count "+w.number()+" max "+w.number()+" ", "until "+w.text()+" max "+w.number()+" ", "until own max "+w.number()+" ")
	return "rule " + w.name() + " " + shape + " " + next + "-> " + w.name()
}

// lines is a text of so many lines, of which most are such as may be.
func (w writer) lines(n int) string {
	var l []string
	if w.Intn(20) > 0 {
		l = append(l, "mode "+w.of("a", "b")+" limit 5")
	}
	for range n {
		l = append(l, w.line())
	}
	return strings.Join(l, "\n") + w.of("", "\n", "\n", "\n\n")
}

// spoilt is a text in which some bytes are others, too many, or lacking.
func (c chance) spoilt(s string) string {
	const bytes = "/\\\" #<>-01afhxq\n\n\t\x00\x1f\x7f\x80\xff"
	for range 1 + c.Intn(2) {
		if s == "" {
			return s
		}
		at, b := c.Intn(len(s)), bytes[c.Intn(len(bytes))]
		switch c.Intn(5) {
		case 0:
			s = s[:at] + s[at+1:]
		case 1:
			s = s[:at]
		case 2:
			s = s[:at] + string([]byte{b}) + s[at:]
		case 3:
			s = s[:at] + s[at:at+1] + s[at:]
		default:
			s = s[:at] + string([]byte{b}) + s[at+1:]
		}
	}
	return s
}
