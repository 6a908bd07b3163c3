package lang

// step is what goes on from a place of a text.
type step func(at int)

// later is the steps that are still to be gone, by the places from which they go.
type later map[int][]step

func (l later) add(at int, next step) {
	l[at] = append(l[at], next)
}

// lists goes on with next from all places that it is handed, in rising lists of places that aren't passed yet.
// But the first place is laid among the steps, the others are merged: such lists may be many, and long.
func (l later) lists(next step) func(places []int) {
	var ahead []int
	var onward step
	wait := func() {
		if len(ahead) > 0 {
			l.add(ahead[0], onward)
		}
	}
	next = once(next)
	onward = func(at int) {
		// It may have been laid here twice.
		if len(ahead) > 0 && ahead[0] == at {
			ahead = ahead[1:]
			next(at)
			wait()
		}
	}
	return func(places []int) {
		ahead = merge(ahead, places)
		wait()
	}
}

// once goes on but once from each place; places come rising.
func once(next step) step {
	last := -1
	return func(at int) {
		if at > last {
			last = at
			next(at)
		}
	}
}

// ends is the places at which texts of p end that begin at some places, both rising.
// All steps from a place are gone ahead of those from the next one: so however many ways lead to a place, it is gone on from but once, and calls don't nest deeper for a longer text.
func ends(p part, from []int) []int {
	if len(from) == 0 {
		return nil
	}
	var l []int
	steps := later{}
	first := p(func(at int) { l = append(l, at) }, steps)
	for _, at := range from {
		steps.add(at, first)
	}
	for at := from[0]; len(steps) > 0; at++ {
		for i := 0; i < len(steps[at]); i++ { // a step may add another one from its own place
			steps[at][i](at)
		}
		delete(steps, at)
	}
	return l
}
