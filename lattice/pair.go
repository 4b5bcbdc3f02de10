package lattice

import (
	"slices"

	"hallmark/api"
	"hallmark/shape"
)

// pair is two types, and the one that is made of them.
type pair struct {
	a, b *api.Type
	out  api.Type
}

// table is what is done to two types, kind by kind; null, false and true are told together.
type table [5]func(*pair)

// made is what a table makes of two types; whether All is set is asked ahead of it.
func (to *table) made(a, b *api.Type) api.Type {
	both := pair{a: a, b: b}
	for _, do := range to {
		do(&both)
	}
	return both.out
}

// said is what an alternative says of a name, and whether that must be there.
func said(o *api.Obj, name string) (*api.Type, bool) {
	at, found := slices.BinarySearch(o.Names, name)
	if !found {
		return &o.Rest, false
	}
	return &o.Fields[at], o.Must[at]
}

// isNever says whether a type has no value.
func isNever(t api.Type) bool { return shape.Kinds(t) == 0 }
