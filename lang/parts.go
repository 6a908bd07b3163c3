package lang

import (
	"hackle/api"
	"hackle/octs"
	"hackle/rx"
)

// part is a part of an expression: handed the step that goes on behind its texts, it tells the one that goes along them.
// If that is gone at most once from each place, so is what was handed in.
type part func(next step, steps later) step

// walk makes parts that go along a text.
// They are made without what has no text: so from wherever a step comes to, some text goes on to its end.
type walk struct {
	text string
	far  int // the furthest place that was come to
}

// along is the places at which texts of re, which may be, end that begin at a place, and the furthest one that lies on any of its texts; -1, if it has no text.
func along(re api.Re, text string, at int) ([]int, int) {
	if rx.Void(re) {
		return nil, -1
	}
	w := &walk{text: text, far: at}
	l := ends(w.part(re), []int{at})
	return l, w.far
}

func (w *walk) part(re api.Re) part {
	switch re.Kind {
	case api.ReByte:
		return w.one(re.Set)
	case api.ReAlt:
		return choice(w.parts(re.Sub)...)
	case api.ReRep:
		return w.rep(re)
	}
	return row(w.parts(re.Sub)...) // ReEmpty too, which has none
}

// parts is the parts of the subs that have a text.
func (w *walk) parts(subs []api.Re) []part {
	var l []part
	for _, sub := range subs {
		if !rx.Void(sub) {
			l = append(l, w.part(sub))
		}
	}
	return l
}

// one is one byte of s.
func (w *walk) one(s api.Set) part {
	return func(next step, steps later) step {
		return func(at int) {
			if at < len(w.text) && octs.Has(s, w.text[at]) {
				w.far = max(w.far, at+1)
				steps.add(at+1, next)
			}
		}
	}
}

// row is the parts one behind the other; of none, the empty text.
func row(parts ...part) part {
	return func(next step, steps later) step {
		for i := len(parts) - 1; i >= 0; i-- {
			next = parts[i](next, steps)
		}
		return next
	}
}

// choice is one of the parts.
func choice(parts ...part) part {
	return func(next step, steps later) step {
		next = once(next)
		var ways []step
		for _, p := range parts {
			ways = append(ways, p(next, steps))
		}
		return func(at int) {
			for _, way := range ways {
				way(at)
			}
		}
	}
}

// rep is the part of a ReRep.
func (w *walk) rep(re api.Re) part {
	body := row(w.parts(re.Sub)...) // empty, if the sub has no text, as then it is taken no times
	lo, hi := re.Min, re.Max
	if rx.Empty(re.Sub[0]) {
		lo = 0 // the times that are lacking take nothing
	}
	if hi >= len(w.text) {
		hi = -1 // no more times than the text has bytes take something
	}
	switch {
	case hi == 0:
		return row()
	case hi == 1 && lo == 0:
		return choice(row(), body)
	case hi == 1:
		return body
	case hi == -1 && lo <= 1:
		return loop(body, lo)
	case hi == -1:
		return row(times(body, lo, lo), loop(body, 0))
	}
	return times(body, lo, hi)
}

// loop is body lo times, which are 0 or 1, or more often.
func loop(body part, lo int) part {
	return func(next step, steps later) step {
		var again step
		pass := once(body(func(at int) { again(at) }, steps))
		again = once(func(at int) {
			next(at)
			pass(at)
		})
		if lo == 0 {
			return again
		}
		return pass
	}
}

// times is body lo to hi times. Its steps aren't those of its body, which would have to count: within each other, such parts have more rows of counts than can be gone through.
// So all places at which it ends are told at once, by the one at which it begins.
func times(body part, lo, hi int) part {
	told := kept(func(at int) []int { return repeated(body, at, lo, hi) })
	return func(next step, steps later) step {
		onward := steps.lists(next)
		return func(at int) { onward(told(at)) }
	}
}

// repeated is the places at which body, lo to hi times, ends that begins at a place.
func repeated(body part, at, lo, hi int) []int {
	now := []int{at}
	for range lo {
		now = ends(body, now)
	}
	all := now
	for i := lo; i < hi && len(now) > 0; i++ {
		now = less(ends(body, now), all) // from the others it was gone on already
		all = merge(all, now)
	}
	return all
}

// kept tells what ask does, but asks it only once for each place, as parts within each other come to the same ones again and again.
func kept(ask func(at int) []int) func(at int) []int {
	known := map[int][]int{}
	return func(at int) []int {
		l, ok := known[at]
		if !ok {
			l = ask(at)
			known[at] = l
		}
		return l
	}
}
