package check_test

import (
	"fmt"
	"math/rand"
	"strings"
	"testing"

	"hackle/api"
	"hackle/check"
	"hackle/dfa"
	"hackle/lang"
	"hackle/nfa"
	"hackle/octs"
	"hackle/prod"
	"hackle/rprint"
	"hackle/rules"
	"hackle/rx"
	"hackle/table"
)

// wholeModel, faultsModel, idleModel and reachedModel are the chapter's words, one by one.

const (
	dec = "0123456789"
	hex = "0123456789abcdefABCDEF"
)

// digitsModel is the digits of a base.
func digitsModel(base int) string {
	return map[int]string{10: dec, 16: hex}[base]
}

func wholeModel(x api.Rule) api.Re {
	if x.Base != 10 && x.Base != 16 {
		return copiedTree(x.Before)
	}
	digit := api.Re{Kind: 1, Set: octs.Of([]byte(digitsModel(x.Base))...)}
	number := api.Re{Kind: 4, Sub: []api.Re{digit}, Min: 1, Max: -1}
	return api.Re{Kind: 2, Sub: []api.Re{copiedTree(x.Before), number, copiedTree(x.After)}}
}

// size is how many nodes re has, and how deep it is.
func size(re api.Re) (nodes, deep int) {
	nodes = 1
	for _, sub := range re.Sub {
		n, d := size(sub)
		nodes, deep = nodes+n, max(deep, d)
	}
	return nodes, deep + 1
}

// hasByte tells whether a Set of re has b.
func hasByte(re api.Re, b byte) bool {
	if re.Kind == 1 && re.Set[b/64]>>(b%64)&1 == 1 {
		return true
	}
	for _, sub := range re.Sub {
		if hasByte(sub, b) {
			return true
		}
	}
	return false
}

// splitModel tells whether the number of x doesn't stand apart.
func splitModel(x api.Rule) bool {
	for _, d := range []byte(digitsModel(x.Base)) {
		if hasByte(x.Before, d) || lang.Begins(x.After, string(d)) {
			return true
		}
	}
	return false
}

// ruleModel is the error of a rule of a file that may be.
func ruleModel(m api.Mode, x api.Rule) api.Errno {
	re := wholeModel(x)
	if nodes, deep := size(re); nodes > 300 || deep > 30 {
		return api.ErrMany
	}
	if !lang.Begins(re, "") || lang.Takes(re, "") {
		return api.ErrEmpty
	}
	if splitModel(x) {
		return api.ErrSplit
	}
	if x.Next.Kind == 1 && x.Base == 0 {
		return api.ErrDigit
	}
	if x.Next.Own && m.Limit > 64 {
		return api.ErrRange
	}
	return api.OK
}

// modeModel is the faults of a mode.
func modeModel(m api.Mode, at int) []check.Fault {
	if len(m.Rules) == 0 {
		return []check.Fault{{Mode: at, Rule: -1, E: api.ErrEmpty}}
	}
	var l []check.Fault
	var wholes []api.Re
	for i, x := range m.Rules {
		if e := ruleModel(m, x); e != api.OK {
			l = append(l, check.Fault{Mode: at, Rule: i, E: e})
		}
		wholes = append(wholes, wholeModel(x))
	}
	if len(l) > 0 {
		return l
	}
	if _, e := table.Make(wholes); e != api.OK {
		return []check.Fault{{Mode: at, Rule: -1, E: e}}
	}
	return nil
}

func faultsModel(f api.File) []check.Fault {
	if !rprint.May(f) {
		return []check.Fault{{Mode: -1, Rule: -1, E: api.ErrArg}}
	}
	var l []check.Fault
	for at, m := range f.Modes {
		l = append(l, modeModel(m, at)...)
	}
	return l
}

// subsets is the automaton of some rules, of which the table may be made.
func subsets(l ...api.Re) dfa.Dfa {
	n, _ := nfa.Build(l)
	d, _ := dfa.Subset(n)
	return d
}

// idleModel asks of each rule whether those ahead have all its texts.
func idleModel(f api.File) [][2]int {
	if !rprint.May(f) {
		return nil
	}
	var l [][2]int
	for at, m := range f.Modes {
		if len(modeModel(m, at)) > 0 {
			continue
		}
		var ahead []api.Re
		for i, x := range m.Rules {
			re := wholeModel(x)
			if i > 0 {
				if _, more := prod.Within(subsets(re), subsets(ahead...)); !more {
					l = append(l, [2]int{at, i})
				}
			}
			ahead = append(ahead, re)
		}
	}
	return l
}

// reachedModel goes round all rules until nothing is new.
func reachedModel(f api.File) []bool {
	if !rprint.May(f) {
		return nil
	}
	l := make([]bool, len(f.Modes))
	l[0] = true
	for range f.Modes {
		for at, m := range f.Modes {
			for _, x := range m.Rules {
				if l[at] {
					l[x.Next.Mode] = true
				}
			}
		}
	}
	return l
}

// read is the file of some lines.
func read(t *testing.T, lines ...string) api.File {
	t.Helper()
	text := strings.Join(lines, "\n")
	f, at, e := rules.Parse(text)
	if e != api.OK {
		t.Fatalf("%s: %d, %d", text, at, e)
	}
	return f
}

// copied is f in new memory without spare room.
func copied(f api.File) api.File {
	var c api.File
	for _, x := range f.Frags {
		x.Re = copiedTree(x.Re)
		c.Frags = append(c.Frags, x)
	}
	for _, m := range f.Modes {
		of := m.Rules
		m.Rules = nil
		for _, x := range of {
			x.Before, x.After = copiedTree(x.Before), copiedTree(x.After)
			m.Rules = append(m.Rules, x)
		}
		c.Modes = append(c.Modes, m)
	}
	return c
}

func copiedTree(re api.Re) api.Re {
	subs := re.Sub
	re.Sub = nil
	for _, sub := range subs {
		re.Sub = append(re.Sub, copiedTree(sub))
	}
	return re
}

// hollow is f in new memory, all lists that are empty not nil, and with spare room that is known again.
func hollow(f api.File) api.File {
	f = copied(f)
	f.Frags = roomy(f.Frags, api.Frag{Name: "room"})
	for i := range f.Frags {
		f.Frags[i].Re = hollowTree(f.Frags[i].Re)
	}
	f.Modes = roomy(f.Modes, api.Mode{Name: "room"})
	for i := range f.Modes {
		m := &f.Modes[i]
		m.Rules = roomy(m.Rules, api.Rule{Name: "room"})
		for k := range m.Rules {
			m.Rules[k].Before, m.Rules[k].After = hollowTree(m.Rules[k].Before), hollowTree(m.Rules[k].After)
		}
	}
	return f
}

func hollowTree(re api.Re) api.Re {
	re.Sub = roomy(re.Sub, api.Re{Kind: 55})
	for i := range re.Sub {
		re.Sub[i] = hollowTree(re.Sub[i])
	}
	return re
}

// roomy is l in new memory, with two more behind it in its spare room.
func roomy[T any](l []T, room T) []T {
	more := make([]T, 0, len(l)+2)
	more = append(append(more, l...), room, room)
	return more[:len(l)]
}

// rooms is f's lists with all that stands in their spare room.
func rooms(f api.File) string {
	text := fmt.Sprintf("%+v %+v", f.Frags[:cap(f.Frags)], f.Modes[:cap(f.Modes)])
	for _, x := range f.Frags {
		text += treeRooms(x.Re)
	}
	for _, m := range f.Modes {
		text += fmt.Sprintf(" %+v", m.Rules[:cap(m.Rules)])
		for _, x := range m.Rules {
			text += treeRooms(x.Before) + treeRooms(x.After)
		}
	}
	return text
}

func treeRooms(re api.Re) string {
	text := fmt.Sprintf(" %+v", re.Sub[:cap(re.Sub)])
	for _, sub := range re.Sub {
		text += treeRooms(sub)
	}
	return text
}

// chance makes things at random.
type chance struct{ *rand.Rand }

func newChance(seed int64) chance { return chance{rand.New(rand.NewSource(seed))} }

// of is one of l.
func of[T any](c chance, l ...T) T { return l[c.Intn(len(l))] }

func (c chance) set() api.Set {
	return octs.Of([]byte(of(c, "x", "y", "x", "y", "xy", "yz", ":", ";", "", "a", "9", "xA", "G", "0"))...)
}

func (c chance) tree(deep int) api.Re {
	switch k := c.Intn(10); {
	case k == 0:
		return api.Re{}
	case deep <= 1 || k < 4:
		return rx.Byte(c.set())
	case k < 7:
		return rx.Cat(c.tree(deep-1), c.tree(deep-1))
	case k < 9:
		return rx.Alt(c.tree(deep-1), c.tree(deep-1))
	}
	lo := of(c, 0, 0, 1, 2)
	return rx.Rep(c.tree(deep-1), lo, of(c, -1, lo, 2))
}

// wide is a tree of at least 280 nodes, or of at most 30 deep.
func (c chance) wide() api.Re {
	if c.Intn(2) == 0 {
		return text("x", 280+c.Intn(20))
	}
	return deep(26 + c.Intn(5))
}

// text is a tree of so many bytes, one behind the other.
func text(s string, n int) api.Re {
	return rx.Text(strings.Repeat(s, n))
}

// deep is a tree that is so deep.
func deep(n int) api.Re {
	re := rx.Text("x")
	for range n - 1 {
		re = rx.Rep(re, 1, 1)
	}
	return re
}

func (c chance) next(modes int) api.Next {
	n := api.Next{Mode: c.Intn(modes)}
	switch c.Intn(8) {
	case 0:
		n.Kind, n.Add, n.Max = 1, c.Intn(3), c.Intn(9)
	case 1:
		n.Kind, n.Max, n.Delim = 2, c.Intn(9), "--"
	case 2:
		n.Kind, n.Max, n.Own = 2, c.Intn(9), true
	}
	return n
}

func (c chance) rule(number, modes int) api.Rule {
	x := api.Rule{Name: fmt.Sprint("r", number), Before: c.tree(3), Base: of(c, 0, 0, 10, 16), Next: c.next(modes)}
	if c.Intn(2) == 0 {
		x.Before = rx.Cat(rx.Text(of(c, "x", "y")), x.Before)
	}
	if x.Base != 0 {
		x.Most, x.After = uint64(c.Intn(100)), c.tree(3)
	}
	switch c.Intn(60) {
	case 0:
		x.Before = c.wide()
	case 1:
		if x.Base != 0 {
			x.After = c.wide()
		}
	}
	return x
}

func (c chance) file() api.File {
	var f api.File
	for i := range c.Intn(2) {
		f.Frags = append(f.Frags, api.Frag{Name: fmt.Sprint("f", i), Re: c.tree(3)})
	}
	modes := of(c, 1, 1, 2, 3, 5)
	for i := range modes {
		m := api.Mode{Name: fmt.Sprint("m", i), End: c.Intn(2) == 0, Limit: of(c, 1, 5, 64, 65, 4096)}
		for k := range of(c, 0, 1, 1, 2, 2, 3, 3, 5) {
			x := c.rule(k, modes)
			if k > 0 && c.Intn(4) == 0 {
				ahead := m.Rules[c.Intn(k)]
				x.Before, x.Base, x.Most, x.After = ahead.Before, ahead.Base, ahead.Most, ahead.After
			}
			m.Rules = append(m.Rules, x)
		}
		f.Modes = append(f.Modes, m)
	}
	return f
}
