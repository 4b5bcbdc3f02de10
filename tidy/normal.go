package tidy

import (
	"slices"

	"hallmark/api"
	"hallmark/below"
	"hallmark/shape"
)

// normal is the normal form of a well shaped type. To heights above the type's own it is the same as to that.
func normal(t api.Type) api.Type {
	out := normalTo(t, 0)
	for height := 1; height <= min(api.MaxHeight, shape.Height(t)); height++ {
		higher := normalTo(t, height)
		if parts(higher) > api.MaxPieces {
			break
		}
		out = higher
	}
	return out
}

// parts is how many types a type is made of, it itself counted.
func parts(t api.Type) int {
	many := 1
	for _, arr := range t.Arrays {
		many += parts(arr.Item)
	}
	for _, obj := range t.Objects {
		many += parts(obj.Rest)
		for _, field := range obj.Fields {
			many += parts(field)
		}
	}
	return many
}

// normalTo is the normal form of a well shaped type to a height.
func normalTo(t api.Type, height int) api.Type {
	if height == 0 && nests(t) {
		return shape.Every()
	}
	inner := func(part api.Type) api.Type { return normalTo(part, height-1) }
	out := renewed(t, inner)
	for i, obj := range out.Objects {
		out.Objects[i] = trimmed(obj, inner)
	}
	if len(out.Texts) > api.MaxTexts {
		out.AnyText, out.Texts = true, nil
	}
	out.Objects = settled(out.Objects, inner)
	if shape.Same(out, laidOut()) {
		return shape.Every()
	}
	return out
}

// laidOut is every, told kind by kind.
func laidOut() api.Type {
	null := shape.Kinds(api.Type{Null: true})
	out := shape.OfKinds(shape.Kinds(shape.Every()) &^ null) // of all kinds at once it would be every itself
	out.Null = true
	return out
}

// trimmed is an alternative without names that say no more than its rest, and with no more names than allowed. Its types are normal forms already; inner makes those that it has instead.
func trimmed(o api.Obj, inner func(api.Type) api.Type) api.Obj {
	o = telling(o)
	if len(o.Names) <= api.MaxFields {
		return o
	}
	given := []*api.Type{&o.Rest}
	for i := api.MaxFields; i < len(o.Fields); i++ {
		given = append(given, &o.Fields[i])
	}
	rest := inner(together(given...))
	return telling(api.Obj{Names: o.Names[:api.MaxFields], Fields: o.Fields[:api.MaxFields], Must: o.Must[:api.MaxFields], Rest: rest})
}

// telling is an alternative with just those of its names of which it says something else than its rest does.
func telling(o api.Obj) api.Obj {
	out := api.Obj{Rest: o.Rest}
	for i, field := range o.Fields {
		if o.Must[i] || !shape.Same(field, o.Rest) {
			out.Names, out.Fields, out.Must = append(out.Names, o.Names[i]), append(out.Fields, field), append(out.Must, o.Must[i])
		}
	}
	return out
}

// settled is alternatives in order, none of which is known to lie in another one, and no more of them than allowed: where there are more, those behind the first ones become one, which may have others in it, so all are asked anew.
func settled(objs []api.Obj, inner func(api.Type) api.Type) []api.Obj {
again:
	objs = outermost(ordered(objs))
	if len(objs) > api.MaxAlts {
		last := renewedObj(inOne(objs[api.MaxAlts-1:]...), inner)
		objs = append(objs[:api.MaxAlts-1], trimmed(last, inner))
		goto again
	}
	return objs
}

// ordered is alternatives, each as a type alone, in order, each once.
func ordered(objs []api.Obj) []api.Type {
	var out []api.Type
	for _, obj := range objs {
		out = append(out, alone(obj))
	}
	slices.SortFunc(out, shape.Cmp)
	return slices.CompactFunc(out, shape.Same)
}

// outermost is those alternatives that aren't known to lie in another one which is left; their list is written into.
func outermost(types []api.Type) []api.Obj {
	for at := 0; at < len(types); {
		lies := func(other api.Type) bool { return below.Below(types[at], other) }
		if slices.ContainsFunc(types[:at], lies) || slices.ContainsFunc(types[at+1:], lies) {
			types = slices.Delete(types, at, at+1)
		} else {
			at++
		}
	}
	var out []api.Obj
	for _, t := range types {
		out = append(out, t.Objects[0])
	}
	return out
}
