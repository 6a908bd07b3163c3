package rprint

import (
	"hackle/api"
	"hackle/rx"
	"hackle/rxparse"
)

// maxCount is the greatest number of bytes of a body, and of those that are added to one.
const maxCount = 1 << 40

// The parts of a file, with what is asked of each.
type (
	file api.File
	mode api.Mode
	rule api.Rule
	next api.Next
)

// is tells whether a part is as each of a chain asks. The chain ends at the first that says no, so that the others may lean on what stands ahead of them.
func is[T any](part T, chain ...func(T) bool) bool {
	for _, asks := range chain {
		if !asks(part) {
			return false
		}
	}
	return true
}

// names is those that things of one kind have so far.
type names map[string]bool

// takes tells whether a thing may have a name, which none ahead of it has, and takes it.
func (n names) takes(name string) bool {
	if n[name] || !rxparse.MayName(name) {
		return false
	}
	n[name] = true
	return true
}

func (f file) fits() bool {
	return len(f.Frags) <= api.MaxFrags && len(f.Modes) >= 1 && len(f.Modes) <= api.MaxModes
}

func (f file) fragsMay() bool {
	taken := names{}
	for _, x := range f.Frags {
		if !taken.takes(x.Name) || !rx.May(x.Re) {
			return false
		}
	}
	return true
}

func (f file) modesMay() bool {
	taken := names{}
	for _, m := range f.Modes {
		if !taken.takes(m.Name) || !is(mode(m), mode.fits, mode.limited, mode.rulesMay) {
			return false
		}
	}
	return true
}

// leads tells whether each rule goes to a mode that there is.
func (f file) leads() bool {
	for _, m := range f.Modes {
		for _, r := range m.Rules {
			if r.Next.Mode < 0 || r.Next.Mode >= len(f.Modes) {
				return false
			}
		}
	}
	return true
}

func (m mode) fits() bool {
	return len(m.Rules) <= api.MaxRules
}

func (m mode) limited() bool {
	return m.Limit >= 1 && m.Limit <= api.MaxLimit
}

func (m mode) rulesMay() bool {
	taken := names{}
	for _, r := range m.Rules {
		if !taken.takes(r.Name) || !is(rule(r), rule.treesMay, rule.numberMay, rule.nextMay) {
			return false
		}
	}
	return true
}

func (r rule) treesMay() bool {
	return rx.May(r.Before) && rx.May(r.After)
}

// numberMay leans on treesMay: an After that may be has nothing, if its kind is that of the empty text.
func (r rule) numberMay() bool {
	switch r.Base {
	case 0:
		return r.Most == 0 && r.After.Kind == api.ReEmpty
	case 10, 16:
		return r.Most <= api.MaxInt
	}
	return false
}

func (r rule) nextMay() bool {
	return is(next(r.Next), next.ofKind, next.bounded, next.delimited)
}

// ofKind tells whether n has nothing but what its kind has.
func (n next) ofKind() bool {
	has := next{Kind: n.Kind, Mode: n.Mode}
	switch n.Kind {
	case api.NextMode:
	case api.NextCount:
		has.Add, has.Max = n.Add, n.Max
	case api.NextUntil:
		has.Max, has.Own = n.Max, n.Own
		if !n.Own {
			has.Delim = n.Delim
		}
	default:
		return false
	}
	return n == has
}

func (n next) bounded() bool {
	return n.Add >= 0 && n.Add <= maxCount && n.Max >= 0 && n.Max <= maxCount
}

func (n next) delimited() bool {
	if n.Kind != api.NextUntil || n.Own {
		return true
	}
	return len(n.Delim) >= 1 && len(n.Delim) <= api.MaxDelim
}
