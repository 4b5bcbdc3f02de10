package tidy

import (
	"slices"

	"hallmark/api"
	"hallmark/tens"
)

// together is types put together, from the first to the last.
func together(types ...*api.Type) api.Type {
	var out api.Type
	for _, t := range types {
		if t.All {
			return *t
		}
		out.Null, out.False, out.True = out.Null || t.Null, out.False || t.False, out.True || t.True
		out.AnyText = out.AnyText || t.AnyText
		out.Nums = spanned(out.Nums, t.Nums)
		out.Texts = append(out.Texts, t.Texts...)
		out.Objects = append(out.Objects, t.Objects...)
	}
	out.Texts = rising(out.Texts)
	if out.AnyText {
		out.Texts = nil
	}
	out.Arrays = arraysOf(types)
	return out
}

// rising puts texts in order, each once; their list is written into.
func rising(texts []string) []string {
	slices.Sort(texts)
	return slices.Compact(texts)
}

// spanned is the numbers of two types, and all between them.
func spanned(a, b []api.Span) []api.Span {
	switch {
	case len(a) == 0:
		return b
	case len(b) == 0:
		return a
	}
	return []api.Span{{Low: farther(a[0].Low, b[0].Low, -1), High: farther(a[0].High, b[0].High, 1)}}
}

// farther is that one of two bounds which lies farther on a side: -1 for the lesser one, 1 for the greater one. None lies farthest.
func farther(a, b string, side int) string {
	if a == "" || b == "" {
		return ""
	}
	if found, _ := tens.Cmp(a, b); found == side {
		return a
	}
	return b
}

// arraysOf is the arrays of types put together.
func arraysOf(types []*api.Type) []api.Arr {
	var out []api.Arr
	var items []*api.Type
	for _, t := range types {
		if len(t.Arrays) == 0 {
			continue
		}
		arr := &t.Arrays[0]
		items = append(items, &arr.Item)
		if len(out) == 0 {
			out = []api.Arr{{Min: arr.Min, Max: arr.Max}}
			continue
		}
		out[0].Min, out[0].Max = min(out[0].Min, arr.Min), most(out[0].Max, arr.Max)
	}
	if len(out) > 0 {
		out[0].Item = together(items...)
	}
	return out
}

// most is the greater one of two numbers of items; -1 is no bound.
func most(a, b int) int {
	if a < 0 || b < 0 {
		return -1
	}
	return max(a, b)
}

// inOne is several alternatives in one.
func inOne(objs ...api.Obj) api.Obj {
	var out api.Obj
	var rests []*api.Type
	for i := range objs {
		out.Names = append(out.Names, objs[i].Names...)
		rests = append(rests, &objs[i].Rest)
	}
	out.Names = rising(out.Names)
	for _, name := range out.Names {
		said, must := saidOf(name, objs)
		out.Fields, out.Must = append(out.Fields, together(said...)), append(out.Must, must)
	}
	out.Rest = together(rests...)
	return out
}

// saidOf is what each of several alternatives says of a name, and whether each of them says that it must be there.
func saidOf(name string, objs []api.Obj) ([]*api.Type, bool) {
	said, all := make([]*api.Type, len(objs)), true
	for i := range objs {
		o := &objs[i]
		if at, found := slices.BinarySearch(o.Names, name); found {
			said[i], all = &o.Fields[at], all && o.Must[at]
		} else {
			said[i], all = &o.Rest, false
		}
	}
	return said, all
}
