package below

import (
	"cmp"
	"slices"

	"hallmark/api"
)

// field is what an alternative says of a name: the type of the field, and whether it must be there.
type field struct {
	of   *api.Type
	must bool
}

// named is the field of a name that stands at a place in Names; the rest, where there is no type for it (no well shaped alternative is so).
func named(o *api.Obj, at int) field {
	if at >= len(o.Fields) || at >= len(o.Must) {
		return unnamed(o)
	}
	return field{&o.Fields[at], o.Must[at]}
}

// unnamed is the field of all names that don't stand in Names.
func unnamed(o *api.Obj) field { return field{of: &o.Rest} }

// anyOf says whether something holds of one of several alternatives.
func anyOf(objs []api.Obj, holds func(*api.Obj) bool) bool {
	for i := range objs {
		if holds(&objs[i]) {
			return true
		}
	}
	return false
}

// ofEachName says whether something holds of each name that one of two alternatives has, asked with the field of both. The names of both rise, so they are gone through side by side.
func ofEachName(a, b *api.Obj, holds func(x, y field) bool) bool {
	i, k := 0, 0
	for i < len(a.Names) || k < len(b.Names) {
		x, y := unnamed(a), unnamed(b)
		side := ahead(a.Names[i:], b.Names[k:])
		if side <= 0 {
			x = named(a, i)
			i++
		}
		if side >= 0 {
			y = named(b, k)
			k++
		}
		if !holds(x, y) {
			return false
		}
	}
	return true
}

// ahead says which of two lists of names has the next one: -1 the first, 1 the second, 0 both. One of them has one.
func ahead(a, b []string) int {
	switch {
	case len(a) == 0:
		return 1
	case len(b) == 0:
		return -1
	}
	return cmp.Compare(a[0], b[0])
}

// among says whether a text is one of several, which rise.
func among(text string, texts []string) bool {
	_, found := slices.BinarySearch(texts, text)
	return found
}
