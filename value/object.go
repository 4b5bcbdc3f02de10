package value

import (
	"cmp"
	"iter"
	"maps"
	"slices"

	"hallmark/api"
)

// Make is the object of these keys and items; of a key that comes twice the later item counts.
func Make(keys []string, items []api.Value) (api.Value, api.Errno) {
	if len(keys) != len(items) || !allValid(keys) || !allFormed(items) {
		return api.Value{}, api.ErrShape
	}
	return Twin(gathered(latest(keys, items))), api.OK
}

// Get is an object's field.
func Get(v api.Value, key string) (api.Value, bool) {
	at := slices.Index(v.Keys, key) // no search by halves: the keys of what isn't well shaped may stand in any order
	if v.Kind != api.Object || at < 0 || at >= len(v.Items) {
		return api.Value{}, false
	}
	return Twin(v.Items[at]), true
}

// With is an object with a field put there.
func With(v api.Value, key string, item api.Value) (api.Value, api.Errno) {
	field := api.Value{Kind: api.Object, Keys: []string{key}, Items: []api.Value{item}}
	return Merge(v, field)
}

// Without is an object without a field.
func Without(v api.Value, key string) (api.Value, api.Errno) {
	if !isObject(v) {
		return api.Value{}, api.ErrShape
	}
	return Twin(gathered(others(v, key))), api.OK
}

// Merge is two objects in one; of a name in both the second one's field counts.
func Merge(a, b api.Value) (api.Value, api.Errno) { return joined(a, b, second) }

// Deep is likewise, but that objects in fields of one name are put together too.
func Deep(a, b api.Value) (api.Value, api.Errno) { return joined(a, b, deeper) }

// isObject says whether a value is a well shaped object.
func isObject(v api.Value) bool { return v.Kind == api.Object && Formed(v) }

// joined is two objects in one, in memory of its own.
func joined(a, b api.Value, both func(x, y api.Value) api.Value) (api.Value, api.Errno) {
	if !isObject(a) || !isObject(b) {
		return api.Value{}, api.ErrShape
	}
	return Twin(gathered(united(a, b, both))), api.OK
}

// second is what Merge leaves of two fields of one name.
func second(_, y api.Value) api.Value { return y }

// deeper is what Deep leaves of two fields of one name. It copies nothing, so that what lies deep isn't copied at each level.
func deeper(x, y api.Value) api.Value {
	if x.Kind != api.Object || y.Kind != api.Object {
		return y
	}
	return gathered(united(x, y, deeper))
}

// gathered is the object of fields whose keys rise; it has lists of its own, but the items in them are those that it was given.
func gathered(fields iter.Seq2[string, api.Value]) api.Value {
	out := api.Value{Kind: api.Object}
	for key, item := range fields {
		out.Keys = append(out.Keys, key)
		out.Items = append(out.Items, item)
	}
	return out
}

// latest goes through keys, each once, rising, beside the last item that stands at such a key.
func latest(keys []string, items []api.Value) iter.Seq2[string, api.Value] {
	places := map[string]int{}
	for i, key := range keys {
		places[key] = i
	}
	return func(yield func(string, api.Value) bool) {
		for _, key := range slices.Sorted(maps.Keys(places)) {
			if !yield(key, items[places[key]]) {
				return
			}
		}
	}
}

// others goes through the fields of an object but the one of a name.
func others(v api.Value, name string) iter.Seq2[string, api.Value] {
	return func(yield func(string, api.Value) bool) {
		for key, item := range inside(v) {
			if key != name && !yield(key, item) {
				return
			}
		}
	}
}

// united goes through the fields of two objects as their keys rise; what stands at a key of both is worked out of the two items.
func united(a, b api.Value, both func(x, y api.Value) api.Value) iter.Seq2[string, api.Value] {
	return func(yield func(string, api.Value) bool) {
		i, j := 0, 0
		for more := true; more && (i < len(a.Keys) || j < len(b.Keys)); {
			switch nearer(a.Keys[i:], b.Keys[j:]) {
			case -1:
				more = yield(a.Keys[i], a.Items[i])
				i++
			case 1:
				more = yield(b.Keys[j], b.Items[j])
				j++
			default:
				more = yield(b.Keys[j], both(a.Items[i], b.Items[j]))
				i++
				j++
			}
		}
	}
}

// nearer is which of two rows of keys, not both empty, has the next one: -1 the first, 1 the second, 0 both.
func nearer(a, b []string) int {
	if len(a) == 0 {
		return 1
	}
	if len(b) == 0 {
		return -1
	}
	return cmp.Compare(a[0], b[0])
}
