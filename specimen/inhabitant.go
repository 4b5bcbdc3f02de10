package specimen

import (
	"math/big"
	"slices"

	"hallmark/api"
)

// DrawnOf is a value of a well shaped type, of one of these kinds; there is none, if the type has none of them.
func DrawnOf(t api.Type, pick Source, kinds ...int) (api.Value, bool) {
	if t.All {
		t = laidOut()
	}
	has := [...]bool{t.Null, t.False, t.True, len(t.Nums) > 0, t.AnyText || len(t.Texts) > 0, len(t.Arrays) > 0, len(t.Objects) > 0}
	kinds = slices.DeleteFunc(slices.Clone(kinds), func(kind int) bool { return !has[kind] })
	if len(kinds) == 0 {
		return api.Value{}, false
	}
	switch kind := kinds[pick(len(kinds))]; kind {
	case api.Number:
		return Num(numberOf(t.Nums[0], pick)), true
	case api.Text:
		if t.AnyText {
			return Text(one(pick, Names())), true
		}
		return Text(one(pick, t.Texts)), true
	case api.Array:
		return listOf(t.Arrays[0], pick), true
	case api.Object:
		return objectOf(t.Objects[pick(len(t.Objects))], pick), true
	default:
		return Kind(kind), true
	}
}

// Kinds are all kinds.
func Kinds() []int {
	return []int{api.Null, api.False, api.True, api.Number, api.Text, api.Array, api.Object}
}

// laidOut has all values as every has them, but that what lies inside is short.
func laidOut() api.Type {
	inner := api.Type{Null: true, True: true, Nums: []api.Span{{}}, AnyText: true}
	out := inner
	out.False, out.Arrays, out.Objects = true, []api.Arr{{Item: inner, Max: -1}}, []api.Obj{{Rest: inner}}
	return out
}

// numberOf is a number of a span: often one at its end.
func numberOf(s api.Span, pick Source) string {
	all := slices.DeleteFunc(append(Numbers(), s.Low, s.High, near(s.Low, 1), near(s.High, -1)), func(n string) bool { return n == "" || !inSpan(n, s) })
	return one(pick, all)
}

// near is a number so far from another one, if that is there.
func near(n string, off int64) string {
	if n == "" {
		return ""
	}
	return new(big.Int).Add(whole(n), big.NewInt(off)).String()
}

func listOf(a api.Arr, pick Source) api.Value {
	many := a.Min + pick(3)
	if a.Max >= 0 {
		many = min(many, a.Max)
	}
	out := List()
	for range many {
		item, _ := DrawnOf(a.Item, pick, Kinds()...)
		out.Items = append(out.Items, item)
	}
	return out
}

func objectOf(o api.Obj, pick Source) api.Value {
	names := slices.Clone(o.Names)
	for range pick(3) {
		names = append(names, one(pick, Names()))
	}
	slices.Sort(names)
	out := Object(nil)
	for _, name := range slices.Compact(names) {
		of, must := o.Rest, true
		if at := slices.Index(o.Names, name); at >= 0 {
			of, must = o.Fields[at], o.Must[at]
		}
		item, ok := DrawnOf(of, pick, Kinds()...)
		if ok && (must || pick(2) == 0) {
			out.Keys, out.Items = append(out.Keys, name), append(out.Items, item)
		}
	}
	return out
}
