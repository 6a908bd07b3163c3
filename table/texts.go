package table

import (
	"iter"

	"hackle/class"
)

// mostTexts is how many texts are told, at most.
const mostTexts = 200

// ways is what leads from the states of a table to tags.
type ways struct {
	Table
	least []byte   // of each class its least byte
	steps [][]step // of each state, rising by their bytes
	ends  []states // of each count those states from which texts of so many bytes have a tag
}

// step is the least byte of a class, and the state to which it leads.
type step struct {
	b  byte
	to int
}

// newWays has the steps of t, and as ends those of no byte.
func newWays(t Table) *ways {
	w := &ways{Table: t, ends: make([]states, 1)}
	for k := range w.Classes.N {
		w.least = append(w.least, byte(class.First(w.Classes, k)))
	}
	for at, tag := range w.Tag {
		w.steps = append(w.steps, w.stepsFrom(at))
		if tag != none {
			w.ends[0].add(at)
		}
	}
	return w
}

// stepsFrom goes along the classes, which are numbered by their least bytes.
func (w *ways) stepsFrom(at int) []step {
	var l []step
	for k, to := range w.Next[at] {
		if to != none {
			l = append(l, step{b: w.least[k], to: to})
		}
	}
	return l
}

// texts tells the texts with a tag, the shortest first, of those the least from the left: all of them, or as long as more are asked for.
// There are no more if from no state at all a text of some length has a tag: then none does of a greater one.
func (w *ways) texts(yield func(string) bool) {
	for length := 1; w.addEnds(); length++ {
		if w.ends[length].has(0) && !w.tell(0, make([]byte, 0, length), length, yield) {
			return
		}
	}
}

// addEnds adds the ends of texts of one byte more; false, if there are none.
func (w *ways) addEnds() bool {
	last := w.ends[len(w.ends)-1]
	var more states
	for at, l := range w.steps {
		for _, s := range l {
			if last.has(s.to) {
				more.add(at)
				break
			}
		}
	}
	w.ends = append(w.ends, more)
	return more != states{}
}

// tell tells the texts that have a tag by so many bytes more, each behind text; false, if no more are asked for.
func (w *ways) tell(at int, text []byte, more int, yield func(string) bool) bool {
	if more == 0 {
		return yield(string(text))
	}
	for _, s := range w.steps[at] {
		if w.ends[more-1].has(s.to) && !w.tell(s.to, append(text, s.b), more-1, yield) {
			return false
		}
	}
	return true
}

// firsts is the first ones of texts, at most so many, but at least one, if there is one.
func firsts(texts iter.Seq[string], many int) []string {
	var l []string
	for s := range texts {
		l = append(l, s)
		if len(l) == many {
			break
		}
	}
	return l
}
