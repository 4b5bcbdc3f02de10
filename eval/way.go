package eval

import (
	"slices"

	"hallmark/api"
	"hallmark/tens"
	"hallmark/value"
)

// way is a way by its last keys and what stands ahead of them, so that ways share what they have in common: many long ones may be on the way that are never made.
type way struct {
	ahead  *way
	last   []api.Value
	long   int // how many keys there are in all
	weight int // that of the array of the keys
}

func noKeys() *way { return &way{weight: 1} }

// by is the way, if there is one, with other keys behind its last.
func (w *way) by(keys ...api.Value) *way {
	if w == nil {
		return nil
	}
	out := &way{w, keys, w.long + len(keys), w.weight}
	for _, key := range keys {
		out.weight += value.Weight(key)
	}
	return out
}

// keys are the way's, as an array.
func (w *way) keys() api.Value {
	l := make([]api.Value, w.long)
	for ; w.long > 0; w = w.ahead {
		copy(l[w.long-len(w.last):], w.last)
	}
	return api.Value{Kind: api.Array, Items: l}
}

// under is what stands under a key, if the key fits: what arith.Index answers. That is not asked, nor is arith.Each for the items, as both look at the whole value and answer memory of their own: to hand something on would cost the more the heavier it is, and its price is the same.
func (s spot) under(key *api.Value) (spot, bool) {
	place := -1
	switch {
	case s.v.Kind == api.Object && key.Kind == api.Text:
		place = fieldPlace(s.v, key.Text)
	case s.v.Kind == api.Array && key.Kind == api.Number:
		place = itemPlace(s.v, key.Num)
	case s.v.Kind != api.Null || key.Kind != api.Text && key.Kind != api.Number:
		return spot{}, false
	}
	if place < 0 {
		return spot{&api.Value{}, s.way.by(*key)}, true
	}
	return spot{&s.v.Items[place], s.way.by(*key)}, true
}

// fieldPlace is where an object has a name; below 0, if it hasn't.
func fieldPlace(of *api.Value, name string) int {
	if place, there := slices.BinarySearch(of.Keys, name); there {
		return place
	}
	return -1
}

// itemPlace is the place of a number in an array; below 0, if it isn't there.
func itemPlace(of *api.Value, number string) int {
	place, small := tens.Small(number)
	if place < 0 {
		place += len(of.Items)
	}
	if !small || place >= len(of.Items) {
		return -1
	}
	return place
}

// item is one of a value's items, by its place.
func (s spot) item(place int) spot {
	out := spot{v: &s.v.Items[place]}
	switch {
	case s.way == nil: // no key is needed then
	case s.v.Kind == api.Object:
		out.way = s.way.by(api.Value{Kind: api.Text, Text: s.v.Keys[place]})
	default:
		out.way = s.way.by(api.Value{Kind: api.Number, Num: tens.Of(place)})
	}
	return out
}
