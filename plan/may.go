package plan

import (
	"hackle/api"
	"hackle/rprint"
	"hackle/rxparse"
	"hackle/table"
)

// all tells whether each of a chain says yes. The chain ends at the first that doesn't.
func all(chain ...func() bool) bool {
	for _, is := range chain {
		if !is() {
			return false
		}
	}
	return true
}

// names is those that things of one kind have so far.
type names map[string]bool

// takes tells whether a thing may have a name, which none ahead of it has, and takes it.
func (n names) takes(name string) bool {
	if n[name] || !rxparse.MayName(name) {
		return false
	}
	n[name] = true
	return true
}

// may tells whether m may be one of so many modes. The table is asked last, as that takes longest.
func (m Mode) may(modes int) bool {
	if !all(m.fits, m.limited) {
		return false
	}
	taken := names{}
	for _, r := range m.Rules {
		if !taken.takes(r.Name) || !(placed{r, m.Limit, modes}).may() {
			return false
		}
	}
	return m.told()
}

func (m Mode) fits() bool {
	return len(m.Rules) >= 1 && len(m.Rules) <= api.MaxRules
}

func (m Mode) limited() bool {
	return m.Limit >= 1 && m.Limit <= api.MaxLimit
}

// told tells whether the mode's table may be, and tells none but its rules.
func (m Mode) told() bool {
	if !table.May(m.Table) {
		return false
	}
	for _, tag := range m.Table.Tag {
		if tag >= len(m.Rules) {
			return false
		}
	}
	return true
}

// placed is a rule, with what its fields hang on: its mode's limit, and how many modes there are.
type placed struct {
	Rule
	limit, modes int
}

func (r placed) may() bool {
	return all(r.based, r.numbered, r.leads, r.follows, r.counted, r.ended)
}

func (r placed) based() bool {
	return r.Base == 0 || r.Base == 10 || r.Base == 16
}

func (r placed) numbered() bool {
	return r.Most <= api.MaxInt && (r.Base != 0 || r.Most == 0)
}

func (r placed) leads() bool {
	return r.Next.Mode >= 0 && r.Next.Mode < r.modes
}

// follows asks layer 14 by the least file that has what follows: its one mode stands for the one that is led to.
func (r placed) follows() bool {
	next := r.Next
	next.Mode = 0
	least := api.Mode{Name: "m", Limit: 1, Rules: []api.Rule{{Name: "r", Next: next}}}
	return rprint.May(api.File{Modes: []api.Mode{least}})
}

// counted tells whether there is a number, where a body's bytes are counted by it.
func (r placed) counted() bool {
	return r.Next.Kind != api.NextCount || r.Base != 0
}

// ended tells whether a token's own text is short enough, where it ends a body.
func (r placed) ended() bool {
	return !r.Next.Own || r.limit <= api.MaxDelim
}
