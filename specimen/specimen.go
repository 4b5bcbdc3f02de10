// Package specimen makes values and types for tests: well shaped ones, ones that aren't in each way in which one can fail to be, and ones that tell whether a call has written into what it was given. No layer calls it.
package specimen

import (
	"iter"
	"slices"
	"strings"
	"sync"

	"hallmark/api"
	"hallmark/reader"
)

// Source picks one of so many: a number from 0 on, below it.
type Source func(many int) int

// Picks takes its choices from bytes; where they end, it takes the first one.
func Picks(data []byte) Source {
	data = slices.Clone(data)
	return func(many int) int {
		if len(data) == 0 {
			return 0
		}
		n := int(data[0]) % many
		data = data[1:]
		return n
	}
}

// Kind is a value that has nothing but its kind.
func Kind(k int) api.Value { return api.Value{Kind: k} }

// Num is a number.
func Num(s string) api.Value { return api.Value{Kind: api.Number, Num: s} }

// Text is a text.
func Text(s string) api.Value { return api.Value{Kind: api.Text, Text: s} }

// List is an array.
func List(items ...api.Value) api.Value { return api.Value{Kind: api.Array, Items: items} }

// Object is an object of keys, each beside its item.
func Object(keys []string, items ...api.Value) api.Value {
	return api.Value{Kind: api.Object, Keys: keys, Items: items}
}

// Names are few, so that two objects often have some in common; their order by bytes is neither that of runes in 16 bits nor that of a dictionary.
func Names() []string {
	return []string{"", "a", "b", "ab", "Z", "~", "é", "\uFFFF", "\U00010000", "a\x00", "\"", "aa"}
}

// Numbers are numbers in tens around the edges of their lengths and of the machine's words.
func Numbers() []string {
	return []string{"0", "1", "-1", "2", "9", "10", "-9", "-10", "99", "100", "-100", "9223372036854775807", "9223372036854775808", "-9223372036854775809", "123456789012345678901234567890"}
}

// Drawn is a well shaped value, at most so deep.
func Drawn(pick Source, deep int) api.Value {
	kinds := api.Object + 1
	if deep == 0 {
		kinds = api.Array
	}
	switch k := pick(kinds); k {
	case api.Number:
		return Num(one(pick, Numbers()))
	case api.Text:
		return Text(one(pick, Names()))
	case api.Array:
		out := List()
		for range pick(4) {
			out.Items = append(out.Items, Drawn(pick, deep-1))
		}
		return out
	case api.Object:
		return DrawnObject(pick, deep)
	default:
		return Kind(k)
	}
}

// ReadOrDrawn is the value that a text says, or a drawn one where it says none.
func ReadOrDrawn(text string, pick Source) api.Value {
	drawn := Drawn(pick, 3)
	if v, e, _ := reader.One(text); e == api.OK {
		return v
	}
	return drawn
}

// DrawnObject is a well shaped object, at most so deep, and at least one.
func DrawnObject(pick Source, deep int) api.Value {
	var keys []string
	for range pick(5) {
		keys = append(keys, one(pick, Names()))
	}
	slices.Sort(keys)
	out := Object(slices.Compact(keys))
	for range out.Keys {
		out.Items = append(out.Items, Drawn(pick, max(deep-1, 0)))
	}
	return out
}

// one is one of some texts.
func one(pick Source, of []string) string { return of[pick(len(of))] }

// WellShaped are values of all kinds: first those at the edges, then so many that are drawn.
func WellShaped(pick Source, many int) []api.Value {
	out := []api.Value{Kind(api.Null), Kind(api.False), Kind(api.True), List(), List(List()), List(List(), List()), Object(nil), Object([]string{}), List(Object(nil)), {Kind: api.Array, Items: []api.Value{}, Keys: []string{}}}
	for _, s := range Numbers() {
		out = append(out, Num(s))
	}
	noughts := strings.Repeat("0", 39)
	out = append(out, Num("1"+noughts), Num("-1"+noughts), Num(strings.Repeat("9", 40)), Num("1"+noughts+"1"))
	for _, s := range Names() {
		out = append(out, Text(s), Object([]string{s}, Kind(api.Null)), Object([]string{s}, Num("1")), List(Text(s)))
	}
	for range many {
		out = append(out, Drawn(pick, 3))
	}
	return out
}

// Nested is a value within so many arrays and objects.
func Nested(v api.Value, deep int) api.Value {
	for i := range deep {
		if i%2 == 0 {
			v = List(v)
		} else {
			v = Object([]string{"a"}, v)
		}
	}
	return v
}

// Orders gives a list in each of its orders, in memory of its own.
func Orders[T any](l []T) iter.Seq[[]T] {
	return func(yield func([]T) bool) {
		if len(l) == 0 {
			yield(nil)
			return
		}
		for i := range l {
			for rest := range Orders(slices.Concat(l[:i], l[i+1:])) {
				if !yield(append([]T{l[i]}, rest...)) {
					return
				}
			}
		}
	}
}

// Alike says whether two values are so field by field, a list that is nil being like an empty one.
func Alike(a, b api.Value) bool {
	return alikeOutside(a, b) && slices.EqualFunc(a.Items, b.Items, Alike)
}

// alikeOutside says it of all but the items.
func alikeOutside(a, b api.Value) bool {
	return a.Kind == b.Kind && a.Num == b.Num && a.Text == b.Text && slices.Equal(a.Keys, b.Keys)
}

// AtOnce says whether something that is asked by eight at once is always answered as one alone is.
func AtOnce(told func() string) bool {
	want := told()
	var got [8]string
	var crew sync.WaitGroup
	for i := range got {
		crew.Go(func() { got[i] = told() })
	}
	crew.Wait()
	return !slices.ContainsFunc(got[:], func(one string) bool { return one != want })
}
