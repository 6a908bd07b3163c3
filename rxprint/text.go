package rxprint

import (
	"iter"
	"strconv"
	"strings"

	"hackle/api"
	"hackle/octs"
)

// The bytes that have a \ ahead to say themselves: those that stand alone, and those in a class.
const (
	signs      = `|*+?{}()[].<>/\`
	classSigns = `[]/\^-`
)

const hexDigits = "0123456789abcdef"

// How tightly the texts of nodes hold together.
const (
	altHolds = iota
	catHolds
	repHolds
	atomHolds
)

// holds is how tightly the text of a kind's node holds together.
func holds(kind int) int {
	switch kind {
	case api.ReAlt:
		return altHolds
	case api.ReCat:
		return catHolds
	case api.ReRep:
		return repHolds
	}
	return atomHolds
}

// written is re, which may be, as text of any length.
func written(re api.Re) string {
	switch re.Kind {
	case api.ReByte:
		return setText(re.Set)
	case api.ReCat:
		return subsText(re, "")
	case api.ReAlt:
		return subsText(re, "|")
	case api.ReRep:
		return subsText(re, "") + timesText(re.Min, re.Max)
	}
	return "()"
}

// subsText is re's Subs with a text between each two; those that hold no tighter than re itself would be read as parts of it, but for ( and ).
func subsText(re api.Re, between string) string {
	var l []string
	for _, sub := range re.Sub {
		text := written(sub)
		if holds(sub.Kind) <= holds(re.Kind) {
			text = "(" + text + ")"
		}
		l = append(l, text)
	}
	return strings.Join(l, between)
}

func timesText(lo, hi int) string {
	switch {
	case isStar(lo, hi):
		return "*"
	case lo == 1 && hi == -1:
		return "+"
	case lo == 0 && hi == 1:
		return "?"
	}
	text := strconv.Itoa(lo)
	if hi != lo {
		text += ","
	}
	if hi > lo {
		text += strconv.Itoa(hi)
	}
	return "{" + text + "}"
}

func setText(s api.Set) string {
	switch octs.Count(s) {
	case 1:
		return byteText(byte(octs.Next(s, 0)), signs)
	case 256:
		return "."
	}
	text := "["
	for lo, hi := range ranges(s) {
		text += byteText(lo, classSigns)
		if hi > lo {
			text += "-" + byteText(hi, classSigns)
		}
	}
	return text + "]"
}

// ranges tells the first and the last byte of each range of s, as long as may be, rising.
func ranges(s api.Set) iter.Seq2[byte, byte] {
	return func(yield func(lo, hi byte) bool) {
		for lo := octs.Next(s, 0); lo >= 0; {
			behind := octs.Next(octs.Not(s), lo)
			if behind < 0 {
				behind = 256
			}
			if !yield(byte(lo), byte(behind-1)) {
				return
			}
			lo = octs.Next(s, behind)
		}
	}
}

// byteText is b as it stands where some bytes must have a \ ahead.
func byteText(b byte, marked string) string {
	text := ""
	switch {
	case b == '\n':
		return `\n`
	case b == '\r':
		return `\r`
	case b == '\t':
		return `\t`
	case strings.IndexByte(marked, b) >= 0:
		text = `\`
		fallthrough
	case b >= ' ' && b <= '~':
		return text + string([]byte{b})
	}
	return `\x` + string([]byte{hexDigits[b>>4], hexDigits[b&15]})
}
