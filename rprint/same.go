package rprint

import (
	"slices"

	"hackle/api"
	"hackle/rx"
)

func sameFrag(a, b api.Frag) bool {
	return a.Name == b.Name && rx.Same(a.Re, b.Re)
}

func sameMode(a, b api.Mode) bool {
	return a.Name == b.Name && a.End == b.End && a.Limit == b.Limit && slices.EqualFunc(a.Rules, b.Rules, sameRule)
}

func sameRule(a, b api.Rule) bool {
	return a.Name == b.Name && a.Base == b.Base && a.Most == b.Most && a.Next == b.Next &&
		rx.Same(a.Before, b.Before) && rx.Same(a.After, b.After)
}
