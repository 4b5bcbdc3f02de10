package sample

import (
	"iter"
	"slices"
	"strings"

	"hallmark/api"
)

// rounds is how many lengths arrays have at most, how many of them are of one length, and how many objects have the same fields.
const rounds = 3

// arrays are the samples of an alternative of arrays whose items are samples at a depth.
func arrays(arr *api.Arr, depth int) iter.Seq[weighed] {
	return func(yield func(weighed) bool) {
		if arr.Min == 0 && !yield(list(nil, 0, 0)) {
			return
		}
		most := longest(arr)
		items := pulled(samples(&arr.Item, depth), most+rounds-1) // no array goes further into the row of items
		for n := max(arr.Min, 1); n <= most; n++ {
			for first := range min(rounds, len(items)) {
				if !yield(list(items, first, n)) {
					return
				}
			}
		}
	}
}

// longest is the greatest length of arrays that are tried. It is held down, since the Min may lie at the end of what an int has, and arrays of as many items as a sample may weigh are too heavy already.
func longest(arr *api.Arr) int {
	n := min(arr.Min, heaviest) + rounds - 1
	if arr.Max >= 0 {
		n = min(n, arr.Max)
	}
	return n
}

// list is an array of n items, from one of them on, and from the first again behind the last.
func list(items []weighed, first, n int) weighed {
	out := weighed{api.Value{Kind: api.Array}, 1}
	for i := range n {
		item := items[(first+i)%len(items)]
		out.value.Items = append(out.value.Items, item.value)
		out.weight += item.weight
	}
	return out
}

// field is a name and the values that it has by turns.
type field struct {
	name   string
	values []weighed
}

// objects are the samples of an alternative of objects whose fields are samples at a depth.
func objects(obj *api.Obj, depth int) iter.Seq[weighed] {
	return func(yield func(weighed) bool) {
		all := forms(obj, depth)
		for round := range rounds {
			for _, fields := range all {
				if !yield(object(fields, round)) {
					return
				}
			}
		}
	}
}

// forms are the rows of fields that objects have: those that must be there; all that can be; and those that must, with one that isn't named. There are none, if one that must be there can't.
func forms(obj *api.Obj, depth int) [][]field {
	var least, most []field
	for i, name := range obj.Names {
		one := field{name, pulled(samples(&obj.Fields[i], depth), rounds)}
		switch {
		case len(one.values) > 0:
			most = append(most, one)
		case obj.Must[i]:
			return nil
		}
		if obj.Must[i] {
			least = append(least, one)
		}
	}
	rest := pulled(samples(&obj.Rest, depth), rounds)
	if len(rest) == 0 {
		return [][]field{least, most}
	}
	return [][]field{least, most, with(least, field{unnamed(obj.Names), rest})}
}

// unnamed is the shortest text of x alone that isn't among names, which rise.
func unnamed(names []string) string {
	for name := "x"; ; name += "x" {
		if _, named := slices.BinarySearch(names, name); !named {
			return name
		}
	}
}

// with is a row of fields whose names rise, and one more.
func with(fields []field, more field) []field {
	at, _ := slices.BinarySearchFunc(fields, more.name, func(one field, name string) int { return strings.Compare(one.name, name) })
	return slices.Insert(slices.Clone(fields), at, more)
}

// object is the object of fields, with the values that they have in a round.
func object(fields []field, round int) weighed {
	out := weighed{api.Value{Kind: api.Object}, 1}
	for _, one := range fields {
		item := one.values[round%len(one.values)]
		out.value.Keys = append(out.value.Keys, one.name)
		out.value.Items = append(out.value.Items, item.value)
		out.weight += 1 + len(one.name) + item.weight
	}
	return out
}
