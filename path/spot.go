package path

import (
	"slices"

	"hallmark/api"
	"hallmark/value"
)

// spot is where something is put into a value: under which name, if it is an object, and at which place.
type spot struct {
	of    api.Value
	name  string
	place int
	there bool
}

// spotFor is where a key puts something into a value, if no more than so many Nulls have to be put in ahead of it.
func spotFor(v, key api.Value, pads int) (spot, api.Errno) {
	v = grounded(v, key)
	find := hand(v).finder(key.Kind)
	if find == nil {
		return spot{}, api.ErrStep
	}
	place, there := find(key)
	s := spot{v, key.Text, place, there}
	switch {
	case place < 0:
		return spot{}, api.ErrFront
	case s.missing() > pads:
		return spot{}, api.ErrMany
	}
	return s, api.OK
}

// grounded is a value that is not Null, in whose place something without items stands that the key fits.
func grounded(v, key api.Value) api.Value {
	switch {
	case v.Kind != api.Null:
		return v
	case key.Kind == api.Text:
		return api.Value{Kind: api.Object}
	}
	return api.Value{Kind: api.Array}
}

// missing is how many items are missing ahead of the spot.
func (s spot) missing() int { return max(s.place-len(s.of.Items), 0) }

// now is what stands there now.
func (s spot) now() api.Value {
	if !s.there {
		return api.Value{}
	}
	return s.of.Items[s.place]
}

// opened is the value with a Null at the spot, in memory of its own. What stands there now isn't copied, so that what lies deep isn't copied at each level.
func (s spot) opened() api.Value {
	front := min(s.place, len(s.of.Items))
	back := front
	if s.there {
		back++
	}
	out := api.Value{Kind: s.of.Kind, Items: make([]api.Value, s.place+1, s.place+1+len(s.of.Items)-back)}
	for i, item := range s.of.Items[:front] {
		out.Items[i] = value.Twin(item)
	}
	for _, item := range s.of.Items[back:] {
		out.Items = append(out.Items, value.Twin(item))
	}
	if s.of.Kind == api.Object {
		out.Keys = slices.Concat(s.of.Keys[:front], []string{s.name}, s.of.Keys[back:])
	}
	return out
}
