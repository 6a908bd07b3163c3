package plan

import (
	"hackle/api"
	"hackle/digits"
)

// maxCount is the greatest number of bytes of a body, and of those that are added to one.
const maxCount = 1 << 40

// firstRun is the first run of digits of a base in s; of no base it is empty.
func firstRun(s string, base int) string {
	from, end := none, len(s)
run:
	for i, r := range s {
		switch digit := isDigit(r, base); {
		case digit && from == none:
			from = i
		case !digit && from != none:
			end = i
			break run
		}
	}
	if from == none {
		return ""
	}
	return s[from:end]
}

// isDigit takes a rune, as one that is cut down to a byte could pass for a digit.
func isDigit(r rune, base int) bool {
	return r < 128 && digits.Digit(byte(r), base) >= 0
}

// follower is what follows a token.
type follower api.Next

func (f follower) known() bool {
	return f.Kind == api.NextMode || f.Kind == api.NextCount || f.Kind == api.NextUntil
}

func (f follower) bounded() bool {
	return f.Add >= 0 && f.Add <= maxCount && f.Max >= 0 && f.Max <= maxCount
}

// count is how many bytes the body of a token has whose number is n. This may be any: no sum is made of it till it is known to be small.
func (f follower) count(n uint64) (int, string, api.Errno) {
	if f.Add > f.Max || n > uint64(f.Max-f.Add) {
		return 0, "", api.ErrBody
	}
	return f.Add + int(n), "", api.OK
}
