package lang

import "cmp"

// merge is what one or both of two rising lists have, rising.
func merge[T cmp.Ordered](a, b []T) []T {
	l := make([]T, 0, len(a)+len(b))
	for len(a) > 0 && len(b) > 0 {
		least := min(a[0], b[0])
		l, a, b = append(l, least), behind(a, least), behind(b, least)
	}
	return append(append(l, a...), b...)
}

// less is what the rising list a has and the rising list b hasn't.
func less[T cmp.Ordered](a, b []T) []T {
	var l []T
	for _, x := range a {
		for len(b) > 0 && b[0] < x {
			b = b[1:]
		}
		if len(b) == 0 || b[0] != x {
			l = append(l, x)
		}
	}
	return l
}

// behind is l without its first one, if that is x.
func behind[T cmp.Ordered](l []T, x T) []T {
	if l[0] == x {
		return l[1:]
	}
	return l
}
