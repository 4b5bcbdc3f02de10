package tidy_test

import (
	"math/big"
	"math/rand"
	"slices"

	"hallmark/api"
	"hallmark/below"
	"hallmark/shape"
	"hallmark/specimen"
)

var (
	nums, texts, arrays, objects, objOf = specimen.Nums, specimen.Texts, specimen.Arrays, specimen.Objects, specimen.Obj
	never, every, null, truth           = api.Type{}, specimen.Every(), api.Type{Null: true}, api.Type{True: true}
	both, anyNumber, anyText, laid      = api.Type{Null: true, True: true}, nums("", ""), api.Type{AnyText: true}, specimen.LaidOut()
	alike, isNever                      = specimen.AlikeTypes, specimen.IsNever
	named, wide, nest                   = specimen.Named, specimen.Wide, specimen.Nest
	withInner, partsOf, inLimits        = specimen.WithInner, specimen.PartsOf, specimen.InLimits
)

func random(seed int64) specimen.Source { return rand.New(rand.NewSource(seed)).Intn }

// short is a text that can be read.
func short(a api.Type) string {
	out := specimen.Told(a)
	return out[:min(len(out), 1000)]
}

// The chapter's words, said once more, plainly: step by step, two at a time.

// sumOf is two types put together.
func sumOf(a, b api.Type) api.Type {
	if a.All || b.All {
		return every
	}
	out := api.Type{Null: a.Null || b.Null, False: a.False || b.False, True: a.True || b.True, AnyText: a.AnyText || b.AnyText}
	out.Nums, out.Arrays, out.Objects = slices.Concat(a.Nums, b.Nums), slices.Concat(a.Arrays, b.Arrays), slices.Concat(a.Objects, b.Objects)
	if !out.AnyText {
		out.Texts = slices.Concat(a.Texts, b.Texts)
		slices.Sort(out.Texts)
		out.Texts = slices.Compact(out.Texts)
	}
	if len(out.Nums) == 2 {
		x, y := out.Nums[0], out.Nums[1]
		out.Nums = []api.Span{{Low: endOf(x.Low, y.Low, -1), High: endOf(x.High, y.High, 1)}}
	}
	if len(out.Arrays) == 2 {
		x, y := out.Arrays[0], out.Arrays[1]
		most := max(x.Max, y.Max)
		if x.Max == -1 || y.Max == -1 {
			most = -1
		}
		out.Arrays = arrays(sumOf(x.Item, y.Item), min(x.Min, y.Min), most).Arrays
	}
	return out
}

// endOf is the lesser one of two bounds, or the greater one, and none, if one of them is.
func endOf(a, b string, side int) string {
	x, is := new(big.Int).SetString(a, 10)
	y, too := new(big.Int).SetString(b, 10)
	switch {
	case !is || !too:
		return ""
	case x.Cmp(y) == side:
		return a
	}
	return b
}

// oneOf is several alternatives in one.
func oneOf(l []api.Obj) api.Obj {
	var out api.Obj
	for _, o := range l {
		out.Names, out.Rest = append(out.Names, o.Names...), sumOf(out.Rest, o.Rest)
	}
	slices.Sort(out.Names)
	out.Names = slices.Compact(out.Names)
	for _, name := range out.Names {
		field, must := never, true
		for _, o := range l {
			next, asked := specimen.FieldOf(o, name)
			field, must = sumOf(field, next), must && asked
		}
		out.Fields, out.Must = append(out.Fields, field), append(out.Must, must)
	}
	return out
}

// cutOf is a type cut to a height.
func cutOf(a api.Type, height int) api.Type {
	if height == 0 && len(a.Arrays)+len(a.Objects) > 0 {
		return every
	}
	return withInner(a, func(in api.Type) api.Type { return cutOf(in, height-1) })
}

// normOf is the normal form of a type.
func normOf(a api.Type) api.Type {
	var out api.Type
	for height := 0; height <= api.MaxHeight; height++ {
		to := normTo(a, height)
		if partsOf(to) > api.MaxPieces {
			break
		}
		out = to
	}
	return out
}

// normTo is the normal form of a type to a height.
func normTo(a api.Type, height int) api.Type {
	if a.All || height == 0 && len(a.Arrays)+len(a.Objects) > 0 {
		return every
	}
	out := withInner(a, func(in api.Type) api.Type { return normTo(in, height-1) })
	for i, o := range out.Objects {
		out.Objects[i] = trimOf(o, height-1)
	}
	if len(out.Texts) > 16 {
		out.Texts, out.AnyText = nil, true
	}
	out.Objects = fewOf(out.Objects, height)
	if alike(out, laid) {
		return every
	}
	return out
}

func trimOf(o api.Obj, height int) api.Obj {
	o = withoutRest(o)
	if len(o.Names) <= 12 {
		return o
	}
	rest := o.Rest
	for _, field := range o.Fields[12:] {
		rest = sumOf(rest, field)
	}
	return withoutRest(api.Obj{Names: o.Names[:12], Fields: o.Fields[:12], Must: o.Must[:12], Rest: normTo(rest, height)})
}

// withoutRest is an alternative without names whose fields need not be there and are as the rest is.
func withoutRest(o api.Obj) api.Obj {
	out := api.Obj{Rest: o.Rest}
	for i, name := range o.Names {
		if !o.Must[i] && alike(o.Fields[i], o.Rest) {
			continue
		}
		out.Names, out.Fields, out.Must = append(out.Names, name), append(out.Fields, o.Fields[i]), append(out.Must, o.Must[i])
	}
	return out
}

// fewOf is step 4 of the normal form to a height.
func fewOf(objs []api.Obj, height int) []api.Obj {
	for {
		slices.SortFunc(objs, func(a, b api.Obj) int { return shape.Cmp(objects(a), objects(b)) })
		objs = slices.CompactFunc(objs, func(a, b api.Obj) bool { return alike(objects(a), objects(b)) })
		for i := 0; i < len(objs); i++ {
			others := slices.Delete(slices.Clone(objs), i, i+1)
			if slices.ContainsFunc(others, func(o api.Obj) bool { return below.Below(objects(objs[i]), objects(o)) }) {
				objs, i = others, i-1
			}
		}
		if len(objs) <= 4 {
			return objs
		}
		last := withInner(objects(oneOf(objs[3:])), func(in api.Type) api.Type { return normTo(in, height-1) })
		objs = append(slices.Clone(objs[:3]), trimOf(last.Objects[0], height-1))
	}
}
