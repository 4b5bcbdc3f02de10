package specimen

import (
	"math"
	"slices"

	"hallmark/api"
)

// Filled are values of one kind with a field set that the kind may not have: each of the four fields.
func Filled(v api.Value) []api.Value {
	a, b, c, d := v, v, v, v
	a.Num = "1"
	b.Text = "x"
	c.Items = []api.Value{{}}
	d.Keys = []string{"a"}
	return []api.Value{a, b, c, d}
}

// Misshapen are values that aren't well shaped at the top.
func Misshapen() []api.Value {
	return slices.Concat(strangeKinds(), wrongNumbers(), wrongTexts(), wrongArrays(), wrongObjects(), wrongFields())
}

// strangeKinds are of no kind, or of one that has no fields.
func strangeKinds() []api.Value {
	out := []api.Value{Kind(-1), Kind(7), Kind(9), Kind(math.MaxInt), Kind(math.MinInt), {Kind: 7, Num: "1"}, {Kind: -1, Items: []api.Value{Num("1")}}, {Kind: 8, Keys: []string{"a"}, Items: []api.Value{Num("1")}}}
	for _, k := range []int{api.Null, api.False, api.True} {
		out = append(out, Filled(Kind(k))...)
	}
	return out
}

func wrongNumbers() []api.Value {
	out := Filled(Num("1"))[1:]
	for _, s := range []string{"", "07", "-0", "00", "-", "+1", "1.0", "1e3", "x", " 1", "1 ", "0x1", "-07", "1_0", "\xff", "--1"} {
		out = append(out, Num(s))
	}
	return out
}

// strays are texts that aren't UTF-8.
func strays() []string {
	return []string{"\xff", "\xc3", "a\x80", "\xc0\x80", "\xed\xa0\x80", "\xf4\x90\x80\x80", "\xe2\x82"}
}

func wrongTexts() []api.Value {
	all := Filled(Text("w"))
	out := []api.Value{all[0], all[2], all[3]}
	for _, s := range strays() {
		out = append(out, Text(s))
	}
	return out
}

func wrongArrays() []api.Value {
	all := Filled(List(Num("1")))
	return []api.Value{all[0], all[1], all[3], {Kind: api.Array, Keys: []string{""}}}
}

// wrongObjects have what no object has, or not as many items as keys.
func wrongObjects() []api.Value {
	x := Num("1")
	out := Filled(Object([]string{"a"}, x))[:2]
	return append(out, Object([]string{"a"}), Object([]string{"a", "b"}, x), Object([]string{"a"}, x, x), Object(nil, x))
}

// wrongFields are objects whose keys don't rise, or aren't UTF-8.
func wrongFields() []api.Value {
	rows := [][]string{{"b", "a"}, {"a", "a"}, {"a", "c", "b"}, {"é", "z"}, {"", ""}, {"\U00010000", "\uFFFF"}, {"ab", "a"}, {"a", "b", "b"}}
	for _, s := range strays() {
		rows = append(rows, []string{s}, []string{"a", s})
	}
	var out []api.Value
	for _, keys := range rows {
		out = append(out, Object(keys, slices.Repeat([]api.Value{Num("1")}, len(keys))...))
	}
	return out
}

// Around are values that are well shaped but for this one inside them.
func Around(v api.Value) []api.Value {
	x := Num("1")
	ab := []string{"a", "b"}
	return []api.Value{
		List(v), List(x, v), List(v, x), List(x, v, x), List(List(List(v))), Object(ab[:1], v), Object(ab, x, v), Object(ab, v, x),
		Object(ab[:1], List(Object([]string{"b", "c"}, x, List(x, v)))), Nested(v, 100),
	}
}

// Wrong are values that aren't well shaped, at the top or inside.
func Wrong() []api.Value {
	out := Misshapen()
	for _, v := range Misshapen() {
		out = append(out, Around(v)...)
	}
	return out
}

// Spoilt is a value with a part of it changed for a misshapen one.
func Spoilt(v api.Value, pick Source) api.Value {
	if len(v.Items) == 0 || pick(3) == 0 {
		all := Misshapen()
		return all[pick(len(all))]
	}
	v.Items = slices.Clone(v.Items)
	at := pick(len(v.Items))
	v.Items[at] = Spoilt(v.Items[at], pick)
	return v
}
