package arith

import (
	"strings"

	"hallmark/api"
	"hallmark/tens"
)

// isBound says whether a value may stand for an end of what is cut.
func isBound(v api.Value) bool { return v.Kind == api.Null || v.Kind == api.Number }

// bounds are the places at which what has so many is cut, the first one not behind the second one.
func bounds(from, to api.Value, many int) (begin, end int) {
	begin, end = place(from, 0, many), place(to, many, many)
	return begin, max(begin, end)
}

// place is that of a bound, from 0 to how many there are; open is the place of Null.
func place(bound api.Value, open, many int) int {
	if bound.Kind == api.Null {
		return open
	}
	n, small := tens.Small(bound.Num)
	switch {
	case !small && strings.HasPrefix(bound.Num, "-"): // it stays below 0, however many there are
		return 0
	case !small:
		return many
	case n < 0:
		n += many
	}
	return min(max(n, 0), many)
}
