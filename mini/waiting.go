package mini

// waiting is lists of states that are to be looked at: a heap of the library, the smallest list ahead.
type waiting [][]int

func (w waiting) Len() int           { return len(w) }
func (w waiting) Less(i, j int) bool { return len(w[i]) < len(w[j]) }
func (w waiting) Swap(i, j int)      { w[i], w[j] = w[j], w[i] }

func (w *waiting) Push(list any) {
	*w = append(*w, list.([]int))
}

func (w *waiting) Pop() any {
	last := len(*w) - 1
	list := (*w)[last]
	*w = (*w)[:last]
	return list
}
