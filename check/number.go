package check

import (
	"slices"

	"hackle/api"
	"hackle/digits"
	"hackle/octs"
	"hackle/rx"
)

// digitsOf is the digits of a base; none, if it is no base.
func digitsOf(base int) api.Set {
	var l []byte
	for b := range 256 {
		if digits.Digit(byte(b), base) >= 0 {
			l = append(l, byte(b))
		}
	}
	return octs.Of(l...)
}

// runsOn tells whether a digit of the rule's base may stand anywhere ahead of its number, or directly behind it: then it isn't sure which digits are the number's.
func runsOn(x api.Rule) bool {
	number := digitsOf(x.Base)
	return slices.ContainsFunc(append(rx.Sets(x.Before), rx.First(x.After)), func(s api.Set) bool {
		return octs.Both(s, number) != api.Set{}
	})
}
