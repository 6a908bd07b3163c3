package plan

import (
	"slices"

	"hackle/api"
	"hackle/check"
	"hackle/dfa"
	"hackle/table"
)

// modeOf is what of a mode without faults is scanned by. As it has none, there is a table of it.
func modeOf(m api.Mode) Mode {
	var wholes []api.Re
	var rules []Rule
	for _, x := range m.Rules {
		wholes = append(wholes, check.Whole(x))
		rules = append(rules, Rule{Name: x.Name, Base: x.Base, Most: x.Most, Next: x.Next})
	}
	t, _ := table.Make(wholes)
	return Mode{Name: m.Name, End: m.End, Limit: m.Limit, Table: t, Rules: rules}
}

func sameMode(a, b Mode) bool {
	return a.Name == b.Name && a.End == b.End && a.Limit == b.Limit && sameTable(a.Table, b.Table) && slices.Equal(a.Rules, b.Rules)
}

func sameTable(a, b table.Table) bool {
	return dfa.Same(a.Dfa, b.Dfa) && slices.Equal(a.Live, b.Live)
}

func copiedTable(t table.Table) table.Table {
	rows := t.Next
	t.Next, t.Tag, t.Live = nil, copied(t.Tag), copied(t.Live)
	for _, row := range rows {
		t.Next = append(t.Next, copied(row))
	}
	return t
}

// copied is l in new memory. (What the library clones of an empty list still points to it.)
func copied[T any](l []T) []T {
	return append([]T(nil), l...)
}
