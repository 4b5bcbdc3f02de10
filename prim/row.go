package prim

import (
	"slices"

	"hallmark/api"
	"hallmark/value"
)

// row is an input that is read as an array, where it could be a text as well: its items.
type row []api.Value

func (r row) all(are func(v api.Value) bool) bool {
	return !slices.ContainsFunc(r, func(v api.Value) bool { return !are(v) })
}

func isArray(v api.Value) bool { return v.Kind == api.Array }

// isBare says whether a value has no others inside, and can have none.
func isBare(v api.Value) bool { return v.Kind != api.Array && v.Kind != api.Object }

func (r row) reversed() api.Value {
	turned := slices.Clone(r)
	slices.Reverse(turned)
	return array(turned, value.Twin)
}

// places are those at which the items of a part stand one behind the other; none, if it has none. No item is gone back to, so that what overlaps costs no more.
func (r row) places(part row) []int {
	if len(part) == 0 {
		return nil
	}
	var out []int
	borders := part.borders()
	met := 0 // items of the part that stand just ahead
	for i, item := range r {
		met = part.goOn(borders, met, item)
		if met == len(part) {
			out = append(out, i+1-len(part))
		}
	}
	return out
}

// goOn is how many items of a part, from its first one on, stand at the end of a row that so many of them ended, when one more comes behind it.
func (r row) goOn(borders []int, met int, item api.Value) int {
	for met > 0 && (met == len(r) || !value.Same(r[met], item)) {
		met = borders[met-1]
	}
	if value.Same(r[met], item) {
		met++
	}
	return met
}

// borders tell of each beginning of a part how many items the longest shorter one has that is its end as well.
func (r row) borders() []int {
	out := make([]int, len(r))
	for i := 1; i < len(r); i++ {
		out[i] = r.goOn(out, out[i-1], r[i])
	}
	return out
}

// flat are the items that are no arrays, and in the place of those that are what is flat of them, behind what stands there already.
func (r row) flat(ahead row) row {
	for _, item := range r {
		if isArray(item) {
			ahead = row(item.Items).flat(ahead)
		} else {
			ahead = append(ahead, item)
		}
	}
	return ahead
}

// column is the array of the items number i of some arrays; Null stands in it for those that have none.
func (r row) column(i int) api.Value {
	return array(r, func(v api.Value) api.Value {
		if i < len(v.Items) {
			return value.Twin(v.Items[i])
		}
		return api.Value{}
	})
}

// longest is how many items that of some arrays has which has most.
func (r row) longest() int {
	most := 0
	for _, v := range r {
		most = max(most, len(v.Items))
	}
	return most
}
