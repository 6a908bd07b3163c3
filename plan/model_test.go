package plan_test

import (
	"fmt"
	"math"
	"math/big"
	"math/rand"
	"reflect"
	"regexp"
	"strings"
	"testing"

	"hackle/api"
	"hackle/check"
	"hackle/lang"
	"hackle/octs"
	"hackle/plan"
	"hackle/rules"
	"hackle/rx"
	"hackle/table"
)

// compileModel, mayModel, sameModel, numberModel, bodyModel and tagModel are the chapter's words, one by one.

func compileModel(f api.File) (plan.Plan, check.Fault, api.Errno) {
	if l := check.Faults(f); len(l) > 0 {
		return plan.Plan{}, l[0], l[0].E
	}
	var p plan.Plan
	for _, m := range f.Modes {
		made := plan.Mode{Name: m.Name, End: m.End, Limit: m.Limit}
		var wholes []api.Re
		for _, x := range m.Rules {
			made.Rules = append(made.Rules, plan.Rule{Name: x.Name, Base: x.Base, Most: x.Most, Next: x.Next})
			wholes = append(wholes, check.Whole(x))
		}
		made.Table, _ = table.Make(wholes)
		p.Modes = append(p.Modes, made)
	}
	return p, check.Fault{}, api.OK
}

var nameShape = regexp.MustCompile(`^[a-z][a-z0-9]{0,23}$`)

// namesModel tells whether all are names, and none stands twice.
func namesModel(l []string) bool {
	for i, name := range l {
		if !nameShape.MatchString(name) {
			return false
		}
		for _, ahead := range l[:i] {
			if ahead == name {
				return false
			}
		}
	}
	return true
}

func mayModel(p plan.Plan) bool {
	if len(p.Modes) == 0 || len(p.Modes) > 16 {
		return false
	}
	var l []string
	for _, m := range p.Modes {
		l = append(l, m.Name)
		if !modeModel(m, len(p.Modes)) {
			return false
		}
	}
	return namesModel(l)
}

func modeModel(m plan.Mode, modes int) bool {
	if m.Limit < 1 || m.Limit > 4096 || len(m.Rules) == 0 || len(m.Rules) > 40 || !table.May(m.Table) {
		return false
	}
	for _, tag := range m.Table.Tag {
		if tag != -1 && (tag < 0 || tag >= len(m.Rules)) {
			return false
		}
	}
	var l []string
	for _, r := range m.Rules {
		l = append(l, r.Name)
		if r.Base != 0 && r.Base != 10 && r.Base != 16 || r.Most > 9223372036854775807 || r.Base == 0 && r.Most != 0 {
			return false
		}
		if !nextModel(r.Next, modes) || r.Next.Kind == 1 && r.Base == 0 || r.Next.Own && m.Limit > 64 {
			return false
		}
	}
	return namesModel(l)
}

// nextModel tells whether what follows is as in a file that may be.
func nextModel(n api.Next, modes int) bool {
	const most = 1099511627776
	if n.Mode < 0 || n.Mode >= modes || n.Add < 0 || n.Add > most || n.Max < 0 || n.Max > most {
		return false
	}
	switch n.Kind {
	case 0:
		return n.Add == 0 && n.Max == 0 && !n.Own && n.Delim == ""
	case 1:
		return !n.Own && n.Delim == ""
	case 2:
		if n.Own {
			return n.Add == 0 && n.Delim == ""
		}
		return n.Add == 0 && n.Delim != "" && len(n.Delim) <= 64
	}
	return false
}

func sameModel(a, b plan.Plan) bool {
	return reflect.DeepEqual(copied(a), copied(b))
}

var runs = map[int]*regexp.Regexp{10: regexp.MustCompile("[0-9]+"), 16: regexp.MustCompile("[0-9a-fA-F]+")}

func numberModel(r plan.Rule, text string) (uint64, api.Errno) {
	if r.Base == 0 {
		return 0, api.OK
	}
	shape := runs[r.Base]
	if shape == nil {
		return 0, api.ErrArg
	}
	run := shape.FindString(text)
	if run == "" {
		return 0, api.ErrDigit
	}
	n, _ := new(big.Int).SetString(run, r.Base)
	if n.Cmp(big.NewInt(math.MaxInt64)) > 0 || n.Cmp(new(big.Int).SetUint64(r.Most)) > 0 {
		return 0, api.ErrRange
	}
	return n.Uint64(), api.OK
}

func bodyModel(r plan.Rule, text string, n uint64) (int, string, api.Errno) {
	const most = 1099511627776
	if k := r.Next.Kind; k != 0 && k != 1 && k != 2 {
		return 0, "", api.ErrArg
	}
	if r.Next.Add < 0 || r.Next.Add > most || r.Next.Max < 0 || r.Next.Max > most {
		return 0, "", api.ErrArg
	}
	if r.Next.Kind == 1 {
		sum := new(big.Int).SetUint64(n)
		sum.Add(sum, big.NewInt(int64(r.Next.Add)))
		if sum.Cmp(big.NewInt(int64(r.Next.Max))) > 0 {
			return 0, "", api.ErrBody
		}
		return int(sum.Int64()), "", api.OK
	}
	delim := ""
	if r.Next.Kind == 2 {
		delim = r.Next.Delim
		if r.Next.Own {
			delim = text
		}
	}
	return -1, delim, api.OK
}

// tagModel is the first rule whose whole has s: its Before, or of a Base what is ahead of some digits, and what is behind them.
func tagModel(l []api.Rule, s string) int {
	for i, x := range l {
		if takesModel(x, s) {
			return i
		}
	}
	return -1
}

func takesModel(x api.Rule, s string) bool {
	if x.Base == 0 {
		return lang.Takes(x.Before, s)
	}
	digits := map[int]string{10: "0123456789", 16: "0123456789abcdefABCDEF"}[x.Base]
	for from := range len(s) {
		for to := from + 1; to <= len(s) && strings.IndexByte(digits, s[to-1]) >= 0; to++ {
			if lang.Takes(x.Before, s[:from]) && lang.Takes(x.After, s[to:]) {
				return true
			}
		}
	}
	return false
}

// read is the file of some lines.
func read(t *testing.T, lines ...string) api.File {
	t.Helper()
	text := strings.Join(lines, "\n")
	f, at, e := rules.Parse(text)
	if e != api.OK {
		t.Fatalf("%s: %d, %d", text, at, e)
	}
	return f
}

// made is the plan of some lines.
func made(t *testing.T, lines ...string) plan.Plan {
	t.Helper()
	p, x, e := plan.Compile(read(t, lines...))
	if e != api.OK {
		t.Fatalf("%s: %v", strings.Join(lines, "\n"), x)
	}
	return p
}

// plain is l in new memory without spare room; an empty one is nil.
func plain[T any](l []T) []T {
	var c []T
	for _, x := range l {
		c = append(c, x)
	}
	return c
}

// copied is p in new memory, all lists that are empty nil.
func copied(p plan.Plan) plan.Plan {
	c := plan.Plan{Modes: plain(p.Modes)}
	for i := range c.Modes {
		m := &c.Modes[i]
		m.Rules = plain(m.Rules)
		m.Table.Tag, m.Table.Live, m.Table.Next = plain(m.Table.Tag), plain(m.Table.Live), plain(m.Table.Next)
		for k, row := range m.Table.Next {
			m.Table.Next[k] = plain(row)
		}
	}
	return c
}

// roomy is l in new memory, with two more behind it in its spare room; an empty one isn't nil.
func roomy[T any](l []T, room T) []T {
	more := make([]T, 0, len(l)+2)
	more = append(append(more, l...), room, room)
	return more[:len(l)]
}

// hollow is p in new memory, with spare room that is known again.
func hollow(p plan.Plan) plan.Plan {
	c := plan.Plan{Modes: roomy(p.Modes, plan.Mode{Name: "room"})}
	for i := range c.Modes {
		m := &c.Modes[i]
		m.Rules = roomy(m.Rules, plan.Rule{Name: "room"})
		m.Table.Tag, m.Table.Live, m.Table.Next = roomy(m.Table.Tag, 55), roomy(m.Table.Live, true), roomy(m.Table.Next, []int{55})
		for k, row := range m.Table.Next {
			m.Table.Next[k] = roomy(row, 55)
		}
	}
	return c
}

// rooms is p's lists with all that stands in their spare room.
func rooms(p plan.Plan) string {
	text := fmt.Sprintf("%+v", p.Modes[:cap(p.Modes)])
	for _, m := range p.Modes {
		text += fmt.Sprintf("%+v %v %v %v", m.Rules[:cap(m.Rules)], m.Table.Tag[:cap(m.Table.Tag)], m.Table.Live[:cap(m.Table.Live)], m.Table.Next[:cap(m.Table.Next)])
		for _, row := range m.Table.Next {
			text += fmt.Sprint(row[:cap(row)])
		}
	}
	return text
}

// scribbled changes all lists of p, and their spare room.
func scribbled(p plan.Plan) {
	for _, m := range p.Modes {
		for _, row := range m.Table.Next {
			fill(row, 77)
		}
		fill(m.Table.Next, []int{77})
		fill(m.Table.Tag, 77)
		for i := range m.Table.Live {
			m.Table.Live[i] = !m.Table.Live[i]
		}
		fill(m.Rules, plan.Rule{Name: "scribble"})
	}
	fill(p.Modes, plan.Mode{Name: "scribble"})
}

func fill[T any](l []T, x T) {
	l = l[:cap(l)]
	for i := range l {
		l[i] = x
	}
}

// chance makes things at random.
type chance struct{ *rand.Rand }

func newChance(seed int64) chance { return chance{rand.New(rand.NewSource(seed))} }

// of is one of l.
func of[T any](c chance, l ...T) T { return l[c.Intn(len(l))] }

func (c chance) set() api.Set {
	return octs.Of([]byte(of(c, "x", "y", "x", "y", "xy", "yz", ":", ";", "", "g", "xG", "\xff"))...)
}

func (c chance) tree(deep int) api.Re {
	switch k := c.Intn(10); {
	case k == 0:
		return api.Re{}
	case deep <= 1 || k < 4:
		return rx.Byte(c.set())
	case k < 7:
		return rx.Cat(c.tree(deep-1), c.tree(deep-1))
	case k < 9:
		return rx.Alt(c.tree(deep-1), c.tree(deep-1))
	}
	lo := of(c, 0, 0, 1, 2)
	return rx.Rep(c.tree(deep-1), lo, of(c, -1, lo, 2))
}

func (c chance) next(base, modes int) api.Next {
	n := api.Next{Mode: c.Intn(modes)}
	switch c.Intn(6) {
	case 0:
		if base != 0 || c.Intn(20) == 0 {
			n.Kind, n.Add, n.Max = 1, c.Intn(3), c.Intn(9)
		}
	case 1:
		n.Kind, n.Max, n.Delim = 2, c.Intn(9), of(c, "-", "--", "\r\n")
	case 2:
		n.Kind, n.Max, n.Own = 2, c.Intn(9), true
	}
	return n
}

func (c chance) rule(number, modes int) api.Rule {
	x := api.Rule{Name: fmt.Sprint("r", number), Before: c.tree(3), Base: of(c, 0, 0, 10, 16)}
	x.Next = c.next(x.Base, modes)
	if c.Intn(10) > 0 {
		x.Before = rx.Cat(rx.Text(of(c, "x", "y", "Z", ":")), x.Before)
	}
	if x.Base != 0 {
		x.Most, x.After = of(c, uint64(c.Intn(100)), api.MaxInt), c.tree(3)
	}
	return x
}

// file is a file that may be, most times without a fault.
func (c chance) file() api.File {
	var f api.File
	for i := range c.Intn(2) {
		f.Frags = append(f.Frags, api.Frag{Name: fmt.Sprint("f", i), Re: c.tree(3)})
	}
	modes := of(c, 1, 1, 2, 3)
	for i := range modes {
		m := api.Mode{Name: fmt.Sprint("m", i), End: c.Intn(2) == 0, Limit: of(c, 1, 5, 64, 64, 64, 65)}
		for k := range of(c, 1, 1, 2, 2, 3, 4) {
			x := c.rule(k, modes)
			if x.Next.Own && m.Limit > 64 && c.Intn(5) > 0 {
				m.Limit = 64
			}
			m.Rules = append(m.Rules, x)
		}
		f.Modes = append(f.Modes, m)
	}
	return f
}

// plan is the plan of a file without faults.
func (c chance) plan() plan.Plan {
	for {
		if p, _, e := plan.Compile(c.file()); e == api.OK {
			return p
		}
	}
}
