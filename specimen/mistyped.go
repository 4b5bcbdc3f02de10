package specimen

import (
	"math"
	"slices"

	"hallmark/api"
)

// MisshapenTypes are types that aren't well shaped at the top.
func MisshapenTypes() []api.Type {
	return slices.Concat(besideAll(), wrongNums(), wrongTextTypes(), wrongArrayTypes(), wrongAlternatives())
}

// besideAll have All set, and something else.
func besideAll() []api.Type {
	out := []api.Type{{Null: true}, {False: true}, {True: true}, Nums("", ""), {AnyText: true}, Texts("a"), Arrays(Every(), 0, -1), Arrays(api.Type{}, 0, 0), Objects(api.Obj{}), Objects(Obj(Every(), nil))}
	for i := range out {
		out[i].All = true
	}
	return out
}

// wrongNums have more than one span, bounds that are no numbers, or the wrong way round.
func wrongNums() []api.Type {
	out := []api.Type{{Nums: []api.Span{{}, {}}}, {Nums: []api.Span{{Low: "1", High: "2"}, {Low: "4", High: "5"}}}, {Nums: make([]api.Span, 3)}}
	for _, v := range wrongNumbers() {
		if v.Num != "" && v.Num != "1" {
			out = append(out, Nums(v.Num, ""), Nums("", v.Num), Nums(v.Num, "5"), Nums("-5", v.Num), Nums(v.Num, v.Num))
		}
	}
	for _, row := range [][2]string{{"5", "4"}, {"10", "9"}, {"-9", "-10"}, {"0", "-1"}, {"1", "-1"}, {"9223372036854775808", "9223372036854775807"}, {"-1", "-123456789012345678901234567890"}} {
		out = append(out, Nums(row[0], row[1]))
	}
	return out
}

// wrongRows are texts that don't rise, or aren't UTF-8.
func wrongRows() [][]string {
	var out [][]string
	for _, v := range wrongFields() {
		out = append(out, v.Keys)
	}
	return out
}

func wrongTextTypes() []api.Type {
	out := []api.Type{{AnyText: true, Texts: []string{"a"}}, {AnyText: true, Texts: []string{""}}, {AnyText: true, Texts: []string{"b", "a"}}}
	for _, row := range wrongRows() {
		out = append(out, Texts(row...))
	}
	return out
}

// wrongArrayTypes have two alternatives, or numbers that don't fit together, or not to the item.
func wrongArrayTypes() []api.Type {
	every, never := Every(), api.Type{}
	a, b := api.Arr{Item: every, Max: -1}, api.Arr{}
	out := []api.Type{{Arrays: []api.Arr{a, a}}, {Arrays: []api.Arr{a, b}}, {Arrays: []api.Arr{b, b}}, {Arrays: []api.Arr{a, a, a}}}
	for _, n := range [][2]int{{-1, -1}, {-1, 0}, {-1, 5}, {math.MinInt, 5}, {-2, -1}, {-2, -2}, {0, -2}, {3, -2}, {0, math.MinInt}, {2, 1}, {1, 0}, {9, 8}, {math.MaxInt, 3}} {
		out = append(out, Arrays(every, n[0], n[1]), Arrays(never, n[0], n[1]))
	}
	for _, n := range [][2]int{{0, -1}, {1, -1}, {0, 1}, {2, 2}, {0, math.MaxInt}} {
		out = append(out, Arrays(never, n[0], n[1]))
	}
	return append(out, Arrays(every, 0, 0), Arrays(api.Type{True: true}, 0, 0), Arrays(Texts("a"), 0, 0), Arrays(Objects(api.Obj{}), 0, 0))
}

// wrongAlternatives have an alternative that isn't right, alone and beside another one.
func wrongAlternatives() []api.Type {
	null, never := api.Type{Null: true}, api.Type{}
	a, nulls, yes := []string{"a"}, []api.Type{null}, []bool{true}
	objs := []api.Obj{
		{Names: a}, {Fields: nulls}, {Must: yes}, {Names: a, Fields: nulls}, {Names: a, Must: yes}, {Fields: nulls, Must: yes}, {Names: a, Fields: nulls, Must: []bool{true, false}},
		{Names: a, Fields: []api.Type{null, null}, Must: yes}, {Names: []string{"a", "b"}, Fields: nulls, Must: yes}, {Names: a, Fields: []api.Type{null, null}, Must: []bool{true, true}},
		Obj(never, []string{"a!"}, never), Obj(null, []string{"a!", "b"}, never, null), Obj(null, []string{"a", "b!"}, null, never), Obj(null, []string{"a", "b!", "c"}, never, never, never),
	}
	for _, row := range wrongRows() {
		objs = append(objs, Obj(null, row, slices.Repeat(nulls, len(row))...))
	}
	var out []api.Type
	right := Obj(null, []string{"a!"}, null)
	for _, o := range objs {
		out = append(out, Objects(o), Objects(right, o), Objects(o, right))
	}
	return out
}

// AroundType are types that are well shaped but for this one inside them, which isn't never.
func AroundType(t api.Type) []api.Type {
	null, ab := api.Type{Null: true}, []string{"a", "b"}
	right := Obj(null, []string{"a!"}, null)
	return []api.Type{
		Arrays(t, 0, -1), Arrays(t, 1, 3), {Null: true, Nums: []api.Span{{}}, AnyText: true, Arrays: []api.Arr{{Item: t, Max: 2}}, Objects: []api.Obj{right}},
		Objects(Obj(null, ab[:1], t)), Objects(Obj(null, []string{"a!"}, t)), Objects(Obj(null, ab, t, null)), Objects(Obj(null, ab, null, t)), Objects(Obj(t, nil)), Objects(Obj(t, ab, null, null)),
		Objects(right, Obj(t, ab[:1], null)), Objects(Obj(t, ab[:1], null), right), Objects(right, right, Obj(null, ab, null, t)), Arrays(Arrays(Arrays(t, 0, 1), 2, 3), 1, -1), NestedType(t, 100),
	}
}

// WrongTypes are types that aren't well shaped, at the top or inside.
func WrongTypes() []api.Type {
	out := MisshapenTypes()
	for _, t := range MisshapenTypes() {
		out = append(out, AroundType(t)...)
	}
	return out
}

// SpoiltType is a type with a part of it changed for a misshapen one.
func SpoiltType(t api.Type, pick Source) api.Type {
	switch {
	case len(t.Arrays) > 0 && pick(2) == 0:
		t.Arrays = slices.Clone(t.Arrays)
		t.Arrays[0].Item = SpoiltType(t.Arrays[0].Item, pick)
	case len(t.Objects) > 0 && pick(3) > 0:
		t.Objects = slices.Clone(t.Objects)
		at := pick(len(t.Objects))
		t.Objects[at] = spoiltObj(t.Objects[at], pick)
	default:
		all := MisshapenTypes()
		t = all[pick(len(all))]
	}
	return t
}

// spoiltObj is an alternative with a field changed, or the rest.
func spoiltObj(o api.Obj, pick Source) api.Obj {
	at := pick(len(o.Fields) + 1)
	if at == len(o.Fields) {
		o.Rest = SpoiltType(o.Rest, pick)
		return o
	}
	o.Fields = slices.Clone(o.Fields)
	o.Fields[at] = SpoiltType(o.Fields[at], pick)
	return o
}
