package specimen

import (
	"slices"
	"strconv"

	"hallmark/api"
)

// CrowdedType is a well shaped type, at most so high, with more alternatives, names and texts than a normal form has, few of which differ much: some lie in others, and some fields say no more than the rest.
func CrowdedType(pick Source, high int) api.Type {
	out := smallType(pick)
	if high == 0 || out.All || pick(5) == 0 {
		return out
	}
	if pick(4) == 0 {
		out.Arrays = []api.Arr{{Item: CrowdedType(pick, high-1), Min: pick(2), Max: [...]int{-1, 3}[pick(2)]}}
		if IsNever(out.Arrays[0].Item) {
			out.Arrays[0].Item.Null = true
		}
	}
	for range [...]int{1, 2, 3, 4, 5, 6, 9}[pick(7)] {
		out.Objects = append(out.Objects, CrowdedObj(pick, high-1))
	}
	return out
}

// smallType is one of a few types without others inside.
func smallType(pick Source) api.Type {
	all := []api.Type{{}, {}, {Null: true}, {Null: true}, {True: true}, {Null: true, True: true}, Every(), Nums("0", "5"), Nums("3", ""), Texts("a"), {AnyText: true}}
	at := pick(len(all) + 1)
	if at == len(all) {
		return Texts(SomeNames(pick, 15+pick(4))...)
	}
	return all[at]
}

// SomeNames are so many names that rise, of few more.
func SomeNames(pick Source, many int) []string {
	var out []string
	for i := range many + 2 {
		out = append(out, "n"+strconv.Itoa(10+i))
	}
	for range 2 {
		at := pick(len(out))
		out = slices.Delete(out, at, at+1)
	}
	return out
}

// CrowdedObj is a well shaped alternative whose fields are at most so high.
func CrowdedObj(pick Source, high int) api.Obj {
	out := api.Obj{Rest: CrowdedType(pick, min(high, pick(3)))}
	switch pick(4) {
	case 0:
		out.Names = SomeNames(pick, 11+pick(5))
	default:
		out.Names = SomeNames(pick, pick(4))
	}
	for range out.Names {
		field := [...]func() api.Type{
			func() api.Type { return out.Rest }, func() api.Type { return smallType(pick) }, func() api.Type { return smallType(pick) }, func() api.Type { return CrowdedType(pick, min(high, pick(3))) },
		}[pick(4)]()
		must := pick(2) == 0 && !IsNever(field)
		out.Fields, out.Must = append(out.Fields, field), append(out.Must, must)
	}
	return out
}
