package path

import (
	"iter"
	"slices"

	"hallmark/api"
	"hallmark/tens"
	"hallmark/value"
)

// All goes over all ways of a value, each beside the part at its end.
func All(v api.Value) iter.Seq2[[]api.Value, api.Value] {
	return those(v, func(api.Value) bool { return true })
}

// Leaves goes over those that end at what is neither an array nor an object.
func Leaves(v api.Value) iter.Seq2[[]api.Value, api.Value] {
	return those(v, func(part api.Value) bool { return part.Kind != api.Array && part.Kind != api.Object })
}

// those goes over the ways of a value to the parts that are wanted, as the value is now; it hands out memory that nobody else has.
func those(v api.Value, wanted func(part api.Value) bool) iter.Seq2[[]api.Value, api.Value] {
	if !value.Formed(v) {
		return func(func([]api.Value, api.Value) bool) {}
	}
	kept := value.Twin(v)
	return func(yield func([]api.Value, api.Value) bool) {
		for way, part := range ways(kept) {
			if wanted(part) && !yield(slices.Clone(way), value.Twin(part)) {
				return
			}
		}
	}
}

// ways goes over all ways of a value. Nothing is copied: a way that it hands out is written over behind that.
func ways(v api.Value) iter.Seq2[[]api.Value, api.Value] {
	return func(yield func([]api.Value, api.Value) bool) { handed(nil, v, yield) }
}

// handed hands out the way that has led to a value, and all that go on from it, and says whether more is wanted. All of them go to one yield: what lies deep isn't handed up level by level.
func handed(way []api.Value, v api.Value, yield func([]api.Value, api.Value) bool) bool {
	if !yield(way, v) {
		return false
	}
	for key, item := range hand(v).each() {
		if !handed(append(way, key), item, yield) {
			return false
		}
	}
	return true
}

// each goes over the items of the value at hand, each beside its key.
func (h hand) each() iter.Seq2[api.Value, api.Value] {
	key := h.number
	if h.Kind == api.Object {
		key = h.name
	}
	return func(yield func(key, item api.Value) bool) {
		for i, item := range h.Items {
			if !yield(key(i), item) {
				return
			}
		}
	}
}

// number is the key of an array's item.
func (hand) number(i int) api.Value { return api.Value{Kind: api.Number, Num: tens.Of(i)} }

// name is the key of an object's field.
func (h hand) name(i int) api.Value { return api.Value{Kind: api.Text, Text: h.Keys[i]} }
