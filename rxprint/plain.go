package rxprint

import (
	"iter"
	"slices"

	"hackle/api"
	"hackle/octs"
	"hackle/rx"
)

// plain is the plain tree of re, which may be.
func plain(re api.Re) api.Re {
	switch re.Kind {
	case api.ReCat:
		return rx.Cat(gathered(re, ofCat)...)
	case api.ReAlt:
		return rx.Alt(gathered(re, ofAlt)...)
	case api.ReRep:
		return plainRep(plain(re.Sub[0]), re.Min, re.Max)
	}
	// Not re itself: its list of no nodes may have spare room, which is not to be kept.
	return api.Re{Kind: re.Kind, Set: re.Set}
}

// gathered is the Subs of re's plain node: of re's own, made plain, those that stay by the rule of its kind.
func gathered(re api.Re, stay func(iter.Seq[api.Re]) iter.Seq[api.Re]) []api.Re {
	// Each is made plain here, once: a rule may go along them twice, and a node at each depth would double that.
	var subs, l []api.Re
	for _, sub := range re.Sub {
		subs = append(subs, plain(sub))
	}
	for sub := range stay(flat(subs, re.Kind)) {
		l = append(l, sub)
	}
	return l
}

// flat tells plain nodes, in the place of one of the kind its Subs.
// Those are of another kind, as it is plain: so one level is enough.
func flat(l []api.Re, kind int) iter.Seq[api.Re] {
	return func(yield func(api.Re) bool) {
		for i, re := range l {
			told := l[i : i+1]
			if re.Kind == kind {
				told = re.Sub
			}
			for _, sub := range told {
				if !yield(sub) {
					return
				}
			}
		}
	}
}

// ofCat tells those that stay in a ReCat: those that aren't ReEmpty, or, if one has no text, that alone.
func ofCat(subs iter.Seq[api.Re]) iter.Seq[api.Re] {
	return func(yield func(api.Re) bool) {
		for sub := range subs {
			if isVoid(sub) {
				yield(sub)
				return
			}
		}
		for sub := range subs {
			if sub.Kind != api.ReEmpty && !yield(sub) {
				return
			}
		}
	}
}

// ofAlt tells those that stay in a ReAlt: those that have a text, of alike ones the first.
// Each ReByte is told as if it had the bytes of all of them: so they are alike, and one stays where the first stands.
func ofAlt(subs iter.Seq[api.Re]) iter.Seq[api.Re] {
	return func(yield func(api.Re) bool) {
		all := bytesOf(subs)
		var told []api.Re
		for sub := range subs {
			if isVoid(sub) {
				continue
			}
			if sub.Kind == api.ReByte {
				sub = rx.Byte(all)
			}
			if has(told, sub) {
				continue
			}
			told = append(told, sub)
			if !yield(sub) {
				return
			}
		}
	}
}

// bytesOf is the bytes of all that are ReByte.
func bytesOf(subs iter.Seq[api.Re]) api.Set {
	var s api.Set
	for sub := range subs {
		if sub.Kind == api.ReByte {
			s = octs.Any(s, sub.Set)
		}
	}
	return s
}

// has tells whether one of l is like re.
func has(l []api.Re, re api.Re) bool {
	return slices.ContainsFunc(l, func(one api.Re) bool { return rx.Same(one, re) })
}

// plainRep is the plain tree of the ReRep of a plain sub.
func plainRep(sub api.Re, lo, hi int) api.Re {
	switch {
	case hi == 0, sub.Kind == api.ReEmpty, isVoid(sub) && lo == 0:
		return api.Re{}
	case isVoid(sub), lo == 1 && hi == 1, isStar(lo, hi) && sub.Kind == api.ReRep && isStar(sub.Min, sub.Max):
		return sub
	}
	return rx.Rep(sub, lo, hi)
}

// isVoid tells whether a node is ReByte of the empty Set; of a plain tree, just if it has no text.
func isVoid(re api.Re) bool {
	return re.Kind == api.ReByte && re.Set == api.Set{}
}

func isStar(lo, hi int) bool {
	return lo == 0 && hi == -1
}
