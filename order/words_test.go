package order_test

import (
	"fmt"
	"math/rand"
	"slices"
	"strconv"

	"hallmark/api"
	"hallmark/specimen"
	"hallmark/value"
)

// What stands in this file says the chapter's words once more, by counting, without sorting or merging anything. The tests hold the package against it.

// belowOf counts the values of a list that are below one.
func belowOf(l []api.Value, v api.Value) int {
	n := 0
	for _, w := range l {
		if value.Cmp(w, v) < 0 {
			n++
		}
	}
	return n
}

// sameOf counts the values of a list that are the same as one.
func sameOf(l []api.Value, v api.Value) int {
	n := 0
	for _, w := range l {
		if value.Same(w, v) {
			n++
		}
	}
	return n
}

func formedOf(l ...api.Value) bool {
	return !slices.ContainsFunc(l, func(v api.Value) bool { return !value.Formed(v) })
}

// risesOf looks at each pair: where none of two neighbours is out of order, no pair is.
func risesOf(l []api.Value) bool {
	for i, v := range l {
		if belowOf(l[i:], v) > 0 {
			return false
		}
	}
	return true
}

// sortByOf puts each value behind those that have a lesser key, and those ahead of it that have the same one.
func sortByOf(l, keys []api.Value) []api.Value {
	out := make([]api.Value, len(l))
	for i, v := range l {
		out[belowOf(keys, keys[i])+sameOf(keys[:i], keys[i])] = v
	}
	return out
}

// groupOf goes through the keys from the least on, by how many there are below.
func groupOf(l, keys []api.Value) [][]api.Value {
	var out [][]api.Value
	for below := 0; below < len(l); {
		var group []api.Value
		for i, v := range l {
			if belowOf(keys, keys[i]) == below {
				group = append(group, v)
			}
		}
		out, below = append(out, group), below+len(group)
	}
	return out
}

func uniqueOf(l, keys []api.Value) []api.Value {
	var out []api.Value
	for _, group := range groupOf(l, keys) {
		out = append(out, group[0])
	}
	return out
}

func leastOf(keys []api.Value) int {
	return slices.IndexFunc(keys, func(v api.Value) bool { return belowOf(keys, v) == 0 })
}

func greatestOf(keys []api.Value) int {
	last := -1
	for i, v := range keys {
		if belowOf(keys, v)+sameOf(keys, v) == len(keys) {
			last = i
		}
	}
	return last
}

func searchOf(l []api.Value, v api.Value) (int, bool) {
	at := slices.IndexFunc(l, func(w api.Value) bool { return value.Same(w, v) })
	if at < 0 {
		return belowOf(l, v), false
	}
	return at, true
}

// What follows tells answers as values, so that one kind of call can be held against its words like another.

var num, text, list, object, kind = specimen.Num, specimen.Text, specimen.List, specimen.Object, specimen.Kind

func whole(n int) api.Value { return num(strconv.Itoa(n)) }

func lists(groups [][]api.Value) api.Value {
	out := list()
	for _, group := range groups {
		out.Items = append(out.Items, list(group...))
	}
	return out
}

func found(at int, there bool) api.Value {
	if there {
		return list(whole(at), kind(api.True))
	}
	return list(whole(at), kind(api.False))
}

// first is the value that Search is asked for: the first one of a list, or null.
func first(l []api.Value) api.Value {
	if len(l) == 0 {
		return api.Value{}
	}
	return l[0]
}

// What follows makes lists.

func wholes(n ...int) []api.Value {
	var out []api.Value
	for _, x := range n {
		out = append(out, whole(x))
	}
	return out
}

func texts(s ...string) []api.Value {
	var out []api.Value
	for _, x := range s {
		out = append(out, text(x))
	}
	return out
}

// numbered is a list of so many values, each one another, so that they can be told apart.
func numbered(many int) []api.Value {
	var out []api.Value
	for i := range many {
		out = append(out, list(text("x"), whole(i)))
	}
	return out
}

func random(seed int64) specimen.Source { return rand.New(rand.NewSource(seed)).Intn }

// drawn is a list of so many values out of some.
func drawn(pick specimen.Source, many int, of []api.Value) []api.Value {
	var out []api.Value
	for range many {
		out = append(out, of[pick(len(of))])
	}
	return out
}

// ofAllKinds is a list in which each value is below the next.
func ofAllKinds() []api.Value {
	ab := []string{"a", "b"}
	out := []api.Value{kind(api.Null), kind(api.False), kind(api.True)}
	for _, s := range []string{"-100", "-10", "-9", "-1", "0", "2", "9", "10", "11", "100", "9223372036854775808"} {
		out = append(out, num(s))
	}
	out = append(out, texts("", "\x00", "A", "a", "a\x00", "aa", "b", "é", "\uFFFF", "\U00010000")...)
	out = append(out, list(), list(kind(api.Null)), list(kind(api.Null), kind(api.Null)), list(num("1"), num("5")), list(num("2")), list(num("10")), list(list()))
	return append(out, object(nil), object(ab[:1], num("2")), object(ab[:1], list()), object(ab, num("1"), num("1")), object(ab, num("1"), num("2")), object(ab[1:], num("1")))
}

// shuffled is a list in another order.
func shuffled(l []api.Value, seed int64) []api.Value {
	out := slices.Clone(l)
	rand.New(rand.NewSource(seed)).Shuffle(len(out), func(i, j int) { out[i], out[j] = out[j], out[i] })
	return out
}

// told is a value as it can be held against another one as a text.
func told(v api.Value) string { return fmt.Sprint(v) }
