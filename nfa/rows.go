package nfa

// rising tells whether a row is places, each greater than the one ahead, of all that there are.
func rising(row []int, all int) bool {
	ahead := -1
	for _, p := range row {
		if p <= ahead || p >= all {
			return false
		}
		ahead = p
	}
	return true
}

// merged is the places of two rising rows, rising. It may share memory with them: as rows are kept in several lists, none is written to.
func merged(a, b []int) []int {
	switch {
	case len(a) == 0:
		return b
	case len(b) == 0:
		return a
	case a[len(a)-1] < b[0]:
		// Another row may stand in the room behind a, so that it is not to be grown into.
		return append(a[:len(a):len(a)], b...)
	}
	l := make([]int, 0, len(a)+len(b))
	for len(a) > 0 && len(b) > 0 {
		p := min(a[0], b[0])
		l = append(l, p)
		a, b = behind(a, p), behind(b, p)
	}
	return append(append(l, a...), b...)
}

// behind is a row without p, if that is its first place.
func behind(row []int, p int) []int {
	if row[0] == p {
		return row[1:]
	}
	return row
}

// shifted is a row in new memory, each of its places by as many further on.
func shifted(row []int, by int) []int {
	l := make([]int, len(row))
	copy(l, row)
	for i := range l {
		l[i] += by
	}
	return l
}

// apart is the rows in new memory: pieces of one list, each without room behind it, so that none that grows comes into the next one.
func apart(rows [][]int) [][]int {
	all := 0
	for _, row := range rows {
		all += len(row)
	}
	rest, l := make([]int, all), make([][]int, len(rows))
	for i, row := range rows {
		n := copy(rest, row)
		l[i], rest = rest[:n:n], rest[n:]
	}
	return l
}
