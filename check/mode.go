package check

import (
	"hackle/api"
	"hackle/rx"
	"hackle/table"
)

// looked is the table of a mode that stands at a place, and its faults; beside a fault a zero table.
func looked(m api.Mode, at int) (table.Table, []Fault) {
	var faults []Fault
	var wholes []api.Re
	for i, x := range m.Rules {
		re := Whole(x)
		if e := ruleError(x, re, m.Limit); e != api.OK {
			faults = append(faults, Fault{Mode: at, Rule: i, E: e})
		}
		wholes = append(wholes, re)
	}
	if len(faults) > 0 {
		return table.Table{}, faults
	}
	t, e := tableOf(wholes)
	if e != api.OK {
		return table.Table{}, []Fault{{Mode: at, Rule: none, E: e}}
	}
	return t, nil
}

// tableOf is the table of some rules, of which there may be none.
func tableOf(wholes []api.Re) (table.Table, api.Errno) {
	if len(wholes) == 0 {
		return table.Table{}, api.ErrEmpty
	}
	return table.Make(wholes)
}

// ruleError is the error of a rule, with its whole, in a mode with a limit. Each check may lean on those ahead.
func ruleError(x api.Rule, re api.Re, limit int) api.Errno {
	return firstError(
		when(api.ErrMany, func() bool { return !rx.May(re) }),
		when(api.ErrEmpty, func() bool { return rx.Void(re) || rx.Empty(re) }),
		when(api.ErrSplit, func() bool { return runsOn(x) }),
		when(api.ErrDigit, func() bool { return x.Next.Kind == api.NextCount && x.Base == 0 }),
		when(api.ErrRange, func() bool { return x.Next.Own && limit > api.MaxDelim }),
	)
}

// when is a check that tells an error if something is so.
func when(e api.Errno, is func() bool) func() api.Errno {
	return func() api.Errno {
		if is() {
			return e
		}
		return api.OK
	}
}

// firstError is the error of the first check that tells one.
func firstError(checks ...func() api.Errno) api.Errno {
	for _, check := range checks {
		if e := check(); e != api.OK {
			return e
		}
	}
	return api.OK
}
