package rprint_test

import (
	"fmt"
	"math"
	"math/rand"
	"reflect"
	"regexp"
	"strings"

	"hackle/api"
	"hackle/octs"
	"hackle/rx"
	"hackle/rxprint"
)

// mayModel, printModel, quoteModel and sameModel are the chapter's words, one by one.

var nameShape = regexp.MustCompile(`^[a-z][a-z0-9]{0,23}$`)

// namesModel tells whether all are names, and none stands twice.
func namesModel(l []string) bool {
	for i, name := range l {
		if !nameShape.MatchString(name) {
			return false
		}
		for _, ahead := range l[:i] {
			if ahead == name {
				return false
			}
		}
	}
	return true
}

func mayModel(f api.File) bool {
	if len(f.Frags) > 40 || len(f.Modes) == 0 || len(f.Modes) > 16 {
		return false
	}
	var l []string
	for _, x := range f.Frags {
		l = append(l, x.Name)
		if !rx.May(x.Re) {
			return false
		}
	}
	if !namesModel(l) {
		return false
	}
	l = nil
	for _, m := range f.Modes {
		l = append(l, m.Name)
		if !modeModel(m, len(f.Modes)) {
			return false
		}
	}
	return namesModel(l)
}

func modeModel(m api.Mode, modes int) bool {
	if len(m.Rules) > 40 || m.Limit < 1 || m.Limit > 4096 {
		return false
	}
	var l []string
	for _, r := range m.Rules {
		l = append(l, r.Name)
		if !rx.May(r.Before) || !rx.May(r.After) || !nextModel(r.Next, modes) {
			return false
		}
		if r.Base != 0 && r.Base != 10 && r.Base != 16 || r.Most > 9223372036854775807 {
			return false
		}
		if r.Base == 0 && (r.Most != 0 || r.After.Kind != 0) {
			return false
		}
	}
	return namesModel(l)
}

func nextModel(n api.Next, modes int) bool {
	const most = 1099511627776
	if n.Mode < 0 || n.Mode >= modes || n.Add < 0 || n.Add > most || n.Max < 0 || n.Max > most {
		return false
	}
	switch n.Kind {
	case 0:
		return n.Add == 0 && n.Max == 0 && !n.Own && n.Delim == ""
	case 1:
		return !n.Own && n.Delim == ""
	case 2:
		if n.Own {
			return n.Add == 0 && n.Delim == ""
		}
		return n.Add == 0 && n.Delim != "" && len(n.Delim) <= 64
	}
	return false
}

func quoteModel(s string) string {
	text := ""
	for i := range len(s) {
		switch b := s[i]; {
		case b == '"', b == '\\':
			text += fmt.Sprintf("\\%c", b)
		case b == 10:
			text += "\\n"
		case b == 13:
			text += "\\r"
		case b == 9:
			text += "\\t"
		case b < 32, b > 126:
			text += fmt.Sprintf("\\x%02x", b)
		default:
			text += fmt.Sprintf("%c", b)
		}
	}
	return `"` + text + `"`
}

// printModel is f written, and the error.
func printModel(f api.File) (string, api.Errno) {
	if !mayModel(f) {
		return "", api.ErrArg
	}
	var text strings.Builder
	long := false
	tree := func(re api.Re) string {
		if re.Kind == 0 {
			return "//"
		}
		s, e := rxprint.Print(re)
		long = long || e != api.OK
		return "/" + s + "/"
	}
	for _, x := range f.Frags {
		fmt.Fprintf(&text, "frag %s %s\n", x.Name, tree(x.Re))
	}
	for _, m := range f.Modes {
		fmt.Fprintf(&text, "mode %s limit %d", m.Name, m.Limit)
		if m.End {
			text.WriteString(" end")
		}
		text.WriteString("\n")
		for _, r := range m.Rules {
			fmt.Fprintf(&text, "rule %s %s ", r.Name, tree(r.Before))
			switch r.Base {
			case 10:
				fmt.Fprintf(&text, "dec %d %s ", r.Most, tree(r.After))
			case 16:
				fmt.Fprintf(&text, "hex %d %s ", r.Most, tree(r.After))
			}
			switch n := r.Next; {
			case n.Kind == 1:
				fmt.Fprintf(&text, "count %d max %d ", n.Add, n.Max)
			case n.Own:
				fmt.Fprintf(&text, "until own max %d ", n.Max)
			case n.Kind == 2:
				fmt.Fprintf(&text, "until %s max %d ", quoteModel(n.Delim), n.Max)
			}
			fmt.Fprintf(&text, "-> %s\n", f.Modes[r.Next.Mode].Name)
		}
	}
	if long || text.Len() > 8000 {
		return "", api.ErrMany
	}
	return text.String(), api.OK
}

func sameModel(a, b api.File) bool {
	return reflect.DeepEqual(copied(a), copied(b))
}

// copied is f in new memory without spare room, all lists that are empty nil.
func copied(f api.File) api.File {
	var c api.File
	for _, x := range f.Frags {
		x.Re = copiedTree(x.Re)
		c.Frags = append(c.Frags, x)
	}
	for _, m := range f.Modes {
		rules := m.Rules
		m.Rules = nil
		for _, r := range rules {
			r.Before, r.After = copiedTree(r.Before), copiedTree(r.After)
			m.Rules = append(m.Rules, r)
		}
		c.Modes = append(c.Modes, m)
	}
	return c
}

func copiedTree(re api.Re) api.Re {
	subs := re.Sub
	re.Sub = nil
	for _, sub := range subs {
		re.Sub = append(re.Sub, copiedTree(sub))
	}
	return re
}

// hollow is f in new memory, all lists that are empty not nil, and with spare room that is known again.
func hollow(f api.File) api.File {
	f = copied(f)
	f.Frags = roomy(f.Frags, api.Frag{Name: "room"})
	for i := range f.Frags {
		f.Frags[i].Re = hollowTree(f.Frags[i].Re)
	}
	f.Modes = roomy(f.Modes, api.Mode{Name: "room"})
	for i := range f.Modes {
		m := &f.Modes[i]
		m.Rules = roomy(m.Rules, api.Rule{Name: "room"})
		for k := range m.Rules {
			m.Rules[k].Before, m.Rules[k].After = hollowTree(m.Rules[k].Before), hollowTree(m.Rules[k].After)
		}
	}
	return f
}

func hollowTree(re api.Re) api.Re {
	re.Sub = roomy(re.Sub, api.Re{Kind: 55})
	for i := range re.Sub {
		re.Sub[i] = hollowTree(re.Sub[i])
	}
	return re
}

// roomy is l in new memory, with two more behind it in its spare room.
func roomy[T any](l []T, room T) []T {
	more := make([]T, 0, len(l)+2)
	more = append(append(more, l...), room, room)
	return more[:len(l)]
}

// wholeRooms is f's lists with all that stands in their spare room.
func wholeRooms(f api.File) string {
	text := fmt.Sprintf("%+v %+v", f.Frags[:cap(f.Frags)], f.Modes[:cap(f.Modes)])
	for _, x := range f.Frags {
		text += treeRooms(x.Re)
	}
	for _, m := range f.Modes {
		text += fmt.Sprintf(" %+v", m.Rules[:cap(m.Rules)])
		for _, r := range m.Rules {
			text += treeRooms(r.Before) + treeRooms(r.After)
		}
	}
	return text
}

func treeRooms(re api.Re) string {
	text := fmt.Sprintf(" %+v", re.Sub[:cap(re.Sub)])
	for _, sub := range re.Sub {
		text += treeRooms(sub)
	}
	return text
}

// chance makes things at random.
type chance struct{ *rand.Rand }

func newChance(seed int64) chance { return chance{rand.New(rand.NewSource(seed))} }

// of is one of l.
func of[T any](c chance, l ...T) T { return l[c.Intn(len(l))] }

// some is a text of bytes, each of which may stand anywhere.
func (c chance) some(n int) string {
	l := make([]byte, n)
	for i := range l {
		l[i] = byte(c.Intn(256))
		if c.Intn(2) == 0 {
			l[i] = "\"\\\n\r\t\x00 ~\x1f\x7f\xff/nrtx0a"[c.Intn(18)]
		}
	}
	return string(l)
}

// name is a name that hangs on n: names of different numbers aren't alike.
func (c chance) name(n int) string {
	name := fmt.Sprintf("%c%d", 'a'+byte(n%26), n)
	if n < 26 && c.Intn(2) == 0 {
		name = name[:1]
	}
	if c.Intn(8) == 0 {
		name += strings.Repeat("z", 24-len(name))
	}
	return name
}

func (c chance) set() api.Set {
	switch c.Intn(6) {
	case 0:
		return api.Set{}
	case 1:
		return octs.Range(0, 255)
	case 2:
		return octs.Range(byte(c.Intn(128)), byte(128+c.Intn(128)))
	case 3:
		return octs.Not(octs.Of(byte(c.Intn(256))))
	}
	return octs.Of(c.some(1 + c.Intn(3))[0])
}

func (c chance) tree(deep int) api.Re {
	switch k := c.Intn(9); {
	case k == 0:
		return api.Re{}
	case deep <= 1 || k < 4:
		return rx.Byte(c.set())
	case k < 6:
		return rx.Cat(c.tree(deep-1), c.tree(deep-1))
	case k < 8:
		return rx.Alt(c.tree(deep-1), c.tree(deep-1), c.tree(deep-1))
	}
	lo := of(c, 0, 1, 2, 64)
	return rx.Rep(c.tree(deep-1), lo, of(c, -1, lo, 64))
}

func (c chance) next(modes int) api.Next {
	n := api.Next{Kind: c.Intn(3), Mode: c.Intn(modes)}
	counts := []int{0, 1, 7, 10, 4096, 1 << 32, 1<<40 - 1, 1 << 40}
	switch n.Kind {
	case 1:
		n.Add, n.Max = of(c, counts...), of(c, counts...)
	case 2:
		n.Max = of(c, counts...)
		n.Own = c.Intn(3) == 0
		if !n.Own {
			n.Delim = c.some(of(c, 1, 1, 2, 3, 63, 64))
		}
	}
	return n
}

func (c chance) rule(number, modes int) api.Rule {
	r := api.Rule{Name: c.name(number), Before: c.tree(4), Base: of(c, 0, 10, 16), Next: c.next(modes)}
	if r.Base != 0 {
		r.Most = of[uint64](c, 0, 1, 9, 10, 255, 1<<32, 1<<53+1, math.MaxInt64)
		r.After = c.tree(3)
	}
	return r
}

// file is a file that may be.
func (c chance) file() api.File {
	frags, modes := of(c, 0, 0, 1, 2, 5), of(c, 1, 1, 2, 3, 5)
	if c.Intn(20) == 0 {
		frags, modes = 40, 16
	}
	return c.sized(frags, modes, 0, 1, 2, 3, 3, 5)
}

// greatFile is a file that may be, of about as many bytes written as may be.
func (c chance) greatFile() api.File {
	return c.sized(of(c, 0, 10, 40), of(c, 4, 5, 6), 15, 20, 30, 40)
}

// sized is a file of so many fragments and modes, each of these with one of some numbers of rules.
func (c chance) sized(frags, modes int, counts ...int) api.File {
	var f api.File
	for i := range frags {
		f.Frags = append(f.Frags, api.Frag{Name: c.name(i), Re: c.tree(4)})
	}
	for i := range modes {
		m := api.Mode{Name: c.name(i), End: c.Intn(2) == 0, Limit: of(c, 1, 2, 10, 4095, 4096)}
		for k := range of(c, counts...) {
			m.Rules = append(m.Rules, c.rule(k, modes))
		}
		f.Modes = append(f.Modes, m)
	}
	return f
}

// changed is f, which may be, with one thing changed, so that it perhaps may not be.
func (c chance) changed(f api.File) api.File {
	f = copied(f)
	m := &f.Modes[c.Intn(len(f.Modes))]
	if c.Intn(3) == 0 {
		switch c.Intn(5) {
		case 0:
			m.Limit = of(c, -1, 0, 1, 4096, 4097, math.MinInt)
		case 1:
			m.Name = c.otherName()
		case 2:
			if len(f.Frags) > 0 {
				f.Frags[c.Intn(len(f.Frags))].Name = c.otherName()
			}
		case 3:
			if len(f.Frags) > 0 {
				f.Frags[c.Intn(len(f.Frags))].Re = c.otherTree()
			}
		default:
			f = c.lengthened(f)
		}
		return f
	}
	if len(m.Rules) > 0 {
		c.changeRule(&m.Rules[c.Intn(len(m.Rules))], len(f.Modes))
	}
	return f
}

func (c chance) otherName() string {
	return of(c, "", "A", "0", "a_", "a ", "é", "a", "b", "a0", "b1", "c2", "a\n", "z9", strings.Repeat("a", 24), strings.Repeat("a", 25))
}

func (c chance) otherTree() api.Re {
	return of(c, api.Re{}, rx.Text("ab"), api.Re{Sub: []api.Re{}}, api.Re{Sub: []api.Re{{}}}, api.Re{Kind: 5}, api.Re{Max: 1}, api.Re{Set: octs.Of(1)}, rx.Rep(rx.Text("a"), 2, 1), rx.Text(strings.Repeat("a", 299)), rx.Text(strings.Repeat("a", 300)))
}

// lengthened is f with one list as long as it may be, one longer, or empty.
func (c chance) lengthened(f api.File) api.File {
	switch c.Intn(4) {
	case 0:
		f.Frags = nil
		for i := range of(c, 39, 40, 41) {
			f.Frags = append(f.Frags, api.Frag{Name: c.name(i)})
		}
	case 1:
		for i := len(f.Modes); i < of(c, 15, 16, 17, 18); i++ {
			f.Modes = append(f.Modes, api.Mode{Name: c.name(i), Limit: 1})
		}
	case 2:
		m := &f.Modes[c.Intn(len(f.Modes))]
		m.Rules = nil
		for i := range of(c, 0, 39, 40, 41) {
			m.Rules = append(m.Rules, api.Rule{Name: c.name(i)})
		}
	default:
		f.Modes = f.Modes[:c.Intn(len(f.Modes)+1)]
	}
	return f
}

func (c chance) changeRule(r *api.Rule, modes int) {
	counts := []int{math.MinInt, -1, 0, 1, 1 << 40, 1<<40 + 1, math.MaxInt}
	switch c.Intn(11) {
	case 0:
		r.Name = c.otherName()
	case 1:
		r.Before = c.otherTree()
	case 2:
		r.After = c.otherTree()
	case 3:
		r.Base = of(c, -1, 0, 1, 2, 8, 10, 11, 15, 16, 17)
	case 4:
		r.Most = of[uint64](c, 0, 1, math.MaxInt64, math.MaxInt64+1, math.MaxUint64)
	case 5:
		r.Next.Kind = of(c, -1, 0, 1, 2, 3)
	case 6:
		r.Next.Mode = of(c, -1, 0, modes-1, modes, math.MinInt, math.MaxInt)
	case 7:
		r.Next.Add = of(c, counts...)
	case 8:
		r.Next.Max = of(c, counts...)
	case 9:
		r.Next.Own = !r.Next.Own
	default:
		r.Next.Delim = c.some(of(c, 0, 0, 1, 64, 65, 300))
	}
}
