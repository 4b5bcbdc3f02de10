package prim

import (
	"slices"
	"strings"

	"hallmark/api"
	"hallmark/value"
)

// holds says whether one value holds another one.
func holds(v, a api.Value) bool {
	switch {
	case v.Kind != a.Kind:
		return false
	case v.Kind == api.Text:
		return strings.Contains(v.Text, a.Text)
	case v.Kind == api.Array:
		return row(v.Items).holds(a.Items)
	case v.Kind == api.Object:
		return holdsFields(v, a)
	}
	return value.Same(v, a)
}

// few is of how many that are looked for it isn't worth while to sort what they are looked for in.
const few = 16

// holds says whether each item of another row is held by one of this. So that very many items on both sides don't cost their numbers multiplied where it can be helped, what stands in both is looked for in a sorted list, and else at its own place first.
func (r row) holds(a row) bool {
	var bare row
	if len(a) >= few {
		bare = r.bare()
	}
	for i, wanted := range a {
		held := func(item api.Value) bool { return holds(item, wanted) }
		_, there := slices.BinarySearchFunc(bare, wanted, value.Cmp)
		own := min(i, len(r))
		if !there && !slices.ContainsFunc(r[own:], held) && !slices.ContainsFunc(r[:own], held) {
			return false
		}
	}
	return true
}

// bare are the items that have no others inside, sorted. To sort all would cost more: each look at what is deep would go to its bottom.
func (r row) bare() row {
	out := slices.DeleteFunc(slices.Clone(r), func(v api.Value) bool { return !isBare(v) })
	slices.SortFunc(out, value.Cmp)
	return out
}

// holdsFields says whether an object has each name of another one, and its field there holds the other one's.
func holdsFields(v, a api.Value) bool {
	for i, key := range a.Keys {
		at, there := slices.BinarySearch(v.Keys, key)
		if !there || !holds(v.Items[at], a.Items[i]) {
			return false
		}
	}
	return true
}
