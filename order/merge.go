package order

// merged is two lists that rise by side as one that does; of two elements with nothing between them, that of a comes first, so that what is sorted by merging keeps its order where it can.
func merged[T any](a, b []T, side func(a, b T) int) []T {
	out := make([]T, 0, len(a)+len(b))
	for len(a) > 0 && len(b) > 0 {
		if side(a[0], b[0]) <= 0 {
			out, a = append(out, a[0]), a[1:]
		} else {
			out, b = append(out, b[0]), b[1:]
		}
	}
	return append(append(out, a...), b...)
}

// sorted is a list's elements, rising by side.
func sorted[T any](l []T, side func(a, b T) int) []T {
	if len(l) < 2 {
		return l
	}
	half := len(l) / 2
	return merged(sorted(l[:half], side), sorted(l[half:], side), side)
}

// runs is a list that rises by side, cut where an element is above the one ahead of it.
func runs[T any](l []T, side func(a, b T) int) [][]T {
	var out [][]T
	begin := 0
	for i := 1; i <= len(l); i++ {
		if i == len(l) || side(l[i-1], l[i]) < 0 {
			out, begin = append(out, l[begin:i]), i
		}
	}
	return out
}
