package specimen

import (
	"slices"
	"strconv"

	"hallmark/api"
)

// Roomy is a copy of a value whose lists, the empty ones too, have spare room with marks in it.
func Roomy(v api.Value) api.Value {
	items := make([]api.Value, 0, len(v.Items)+2)
	for _, item := range v.Items {
		items = append(items, Roomy(item))
	}
	keys := make([]string, 0, len(v.Keys)+2)
	keys = append(keys, v.Keys...)
	v.Items, v.Keys = append(items, Text("spare"), Num("77"))[:len(items)], append(keys, "spare", "room")[:len(keys)]
	return v
}

// Untouched says whether a value is still what Roomy made of this one, its spare room too.
func Untouched(v, before api.Value) bool {
	items, keys := v.Items[len(v.Items):cap(v.Items)], v.Keys[len(v.Keys):cap(v.Keys)]
	marked := len(items) == 2 && items[0].Text == "spare" && items[1].Num == "77" && slices.Equal(keys, []string{"spare", "room"})
	return marked && alikeOutside(v, before) && slices.EqualFunc(v.Items, before.Items, Untouched)
}

// Own says whether a value's memory is its own: no two of its lists share a place, spare room counted, and none of them shares one with these others. Marks are written into all places, asked for, and taken out again.
func Own(v api.Value, others ...api.Value) bool {
	own, given := places(v), places(others...)
	all := slices.Concat(own, given)
	var was []string
	for _, place := range all {
		was = append(was, *place)
	}
	for _, place := range given {
		*place = "given"
	}
	for i, place := range own {
		*place = strconv.Itoa(i)
	}
	right := true
	for i, place := range all {
		right = right && (i < len(own) && *place == strconv.Itoa(i) || i >= len(own) && *place == "given")
	}
	for i, place := range all {
		*place = was[i]
	}
	return right
}

// places is a text in each place of all lists in values, those of their spare room too, and those of lists that a kind has no use for.
func places(values ...api.Value) []*string {
	var out []*string
	for _, v := range values {
		items, keys := v.Items[:cap(v.Items)], v.Keys[:cap(v.Keys)]
		for i := range items {
			out = append(out, &items[i].Text)
		}
		for i := range keys {
			out = append(out, &keys[i])
		}
		out = append(out, places(v.Items...)...)
	}
	return out
}

// Scribble writes into all lists of a value, and into their spare room.
func Scribble(v api.Value) {
	for _, item := range v.Items {
		Scribble(item)
	}
	for i := range v.Items[:cap(v.Items)] {
		v.Items[:cap(v.Items)][i] = Text("scribbled")
	}
	for i := range v.Keys[:cap(v.Keys)] {
		v.Keys[:cap(v.Keys)][i] = "scribbled"
	}
}
