package specimen

import (
	"math/big"
	"slices"

	"hallmark/api"
)

// IsNever says whether nothing is set in a type.
func IsNever(t api.Type) bool { return AlikeTypes(t, api.Type{}) }

// ByKinds is a type told kind by kind.
func ByKinds(t api.Type) api.Type {
	if t.All {
		return LaidOut()
	}
	return t
}

// Besides are the numbers at the bounds of spans, next to them and far out.
func Besides(spans ...api.Span) []string {
	const far = "1000000000000000000000000000000000000000000000000000000000000"
	out := []string{"0", far, "-" + far}
	for _, span := range spans {
		for _, bound := range []string{span.Low, span.High} {
			if n, ok := new(big.Int).SetString(bound, 10); ok {
				out = append(out, bound, new(big.Int).Add(n, big.NewInt(1)).String(), new(big.Int).Sub(n, big.NewInt(1)).String())
			}
		}
	}
	return out
}

// FieldOf is an alternative's field of a name.
func FieldOf(o api.Obj, name string) (api.Type, bool) {
	if at := slices.Index(o.Names, name); at >= 0 {
		return o.Fields[at], o.Must[at]
	}
	return o.Rest, false
}

// SomeOf is a value of a type that isn't never.
func SomeOf(a api.Type) api.Value {
	v, _ := DrawnOf(a, Picks(nil), Kinds()...)
	return v
}

// sameItems is an array of the type, if it can be made of this one item: with no fewer items than asked for.
func sameItems(a api.Arr, least int, item api.Value) api.Value {
	return List(slices.Repeat([]api.Value{item}, max(a.Min, least))...)
}

// fewestFields is an object of an alternative with the fields that must be there, and these others.
func fewestFields(o api.Obj, names []string, items ...api.Value) api.Value {
	of := map[string]api.Value{}
	for i, name := range o.Names {
		if o.Must[i] {
			of[name] = SomeOf(o.Fields[i])
		}
	}
	for i, name := range names {
		of[name] = items[i]
	}
	out := Object(nil)
	for name := range of {
		out.Keys = append(out.Keys, name)
	}
	slices.Sort(out.Keys)
	for _, name := range out.Keys {
		out.Items = append(out.Items, of[name])
	}
	return out
}

// fresh is a text that isn't among others.
func fresh(texts ...string) string {
	out := "x"
	for slices.Contains(texts, out) {
		out += "x"
	}
	return out
}

// Strays are values of a type, among them one that isn't of the other type, if there is such a value and no part of the other one has more than one alternative.
func Strays(a, b api.Type) []api.Value {
	if IsNever(a) || b.All {
		return nil
	}
	a = ByKinds(a)
	out := []api.Value{Kind(api.Null), Kind(api.False), Kind(api.True)}
	if len(a.Nums) > 0 {
		for _, n := range Besides(slices.Concat(a.Nums, b.Nums)...) {
			out = append(out, Num(n))
		}
	}
	out = append(out, Text(fresh(b.Texts...)))
	for _, s := range a.Texts {
		out = append(out, Text(s))
	}
	for _, x := range a.Arrays {
		out = append(out, strayLists(x, b)...)
	}
	for _, x := range a.Objects {
		out = append(out, strayObjects(x, b)...)
	}
	return slices.DeleteFunc(out, func(v api.Value) bool { return !In(v, a) })
}

func strayLists(x api.Arr, b api.Type) []api.Value {
	some := SomeOf(x.Item)
	out := []api.Value{sameItems(x, 0, some)}
	for _, y := range b.Arrays {
		out = append(out, sameItems(x, y.Max+1, some))
		for _, item := range Strays(x.Item, y.Item) {
			out = append(out, sameItems(x, 1, item))
		}
	}
	return out
}

func strayObjects(x api.Obj, b api.Type) []api.Value {
	out := []api.Value{fewestFields(x, nil)}
	for _, y := range b.Objects {
		names := NamesOf(x, y)
		for _, name := range append(names, fresh(names...)) {
			of, _ := FieldOf(x, name)
			other, _ := FieldOf(y, name)
			for _, item := range Strays(of, other) {
				if !In(item, other) {
					out = append(out, fewestFields(x, []string{name}, item))
					break
				}
			}
		}
	}
	return out
}

// CommonOf is a value of two types, if there is one.
func CommonOf(a, b api.Type) (api.Value, bool) {
	if IsNever(a) || IsNever(b) {
		return api.Value{}, false
	}
	if a.All || b.All {
		if a.All {
			a = b
		}
		return SomeOf(a), true
	}
	for _, candidates := range []func(a, b api.Type) []api.Value{plainOnes, commonLists, commonObjects} {
		for _, v := range candidates(a, b) {
			if In(v, a) && In(v, b) {
				return v, true
			}
		}
	}
	return api.Value{}, false
}

// plainOnes are values without items: one of each sort that two types may have in common.
func plainOnes(a, b api.Type) []api.Value {
	out := []api.Value{Kind(api.Null), Kind(api.False), Kind(api.True), Text(""), List(), Object(nil)}
	for _, s := range slices.Concat(a.Texts, b.Texts) {
		out = append(out, Text(s))
	}
	if len(a.Nums) > 0 && len(b.Nums) > 0 {
		for _, n := range Besides(a.Nums[0], b.Nums[0]) {
			out = append(out, Num(n))
		}
	}
	return out
}

func commonLists(a, b api.Type) []api.Value {
	var out []api.Value
	for _, x := range a.Arrays {
		for _, y := range b.Arrays {
			if item, ok := CommonOf(x.Item, y.Item); ok {
				out = append(out, sameItems(x, y.Min, item))
			}
		}
	}
	return out
}

func commonObjects(a, b api.Type) []api.Value {
	var out []api.Value
	for _, x := range a.Objects {
		for _, y := range b.Objects {
			out = append(out, commonObject(x, y))
		}
	}
	return out
}

// commonObject has a field of each name of two alternatives that one of them asks for, if they have a value in common for it.
func commonObject(x, y api.Obj) api.Value {
	v := Object(nil)
	for _, name := range NamesOf(x, y) {
		of, must := FieldOf(x, name)
		other, asked := FieldOf(y, name)
		if !must && !asked {
			continue
		}
		if item, ok := CommonOf(of, other); ok {
			v.Keys, v.Items = append(v.Keys, name), append(v.Items, item)
		}
	}
	return v
}

// NamesOf are the names of two alternatives.
func NamesOf(a, b api.Obj) []string {
	out := slices.Concat(a.Names, b.Names)
	slices.Sort(out)
	return slices.Compact(out)
}
