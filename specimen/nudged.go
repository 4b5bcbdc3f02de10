package specimen

import (
	"slices"

	"hallmark/api"
)

// Single is a type with one alternative at most in each part.
func Single(t api.Type) api.Type {
	t.Arrays, t.Objects = slices.Clone(t.Arrays), slices.Clone(t.Objects[:min(len(t.Objects), 1)])
	for i := range t.Arrays {
		t.Arrays[i].Item = Single(t.Arrays[i].Item)
	}
	for i, o := range t.Objects {
		t.Objects[i].Rest, t.Objects[i].Fields = Single(o.Rest), slices.Clone(o.Fields)
		for k, field := range o.Fields {
			t.Objects[i].Fields[k] = Single(field)
		}
	}
	return t
}

// LaidOut is every, told kind by kind.
func LaidOut() api.Type {
	return api.Type{Null: true, False: true, True: true, Nums: []api.Span{{}}, AnyText: true, Arrays: []api.Arr{{Item: Every(), Max: -1}}, Objects: []api.Obj{{Rest: Every()}}}
}

// NudgedType is a well shaped type with one thing changed somewhere in it; it is in memory of its own only where it was changed.
func NudgedType(t api.Type, pick Source) api.Type {
	if t.All {
		return [...]func() api.Type{LaidOut, func() api.Type { return DrawnType(pick, 1) }}[pick(2)]()
	}
	if len(t.Objects) > 0 && pick(2) == 0 {
		t.Objects = slices.Clone(t.Objects)
		at := pick(len(t.Objects))
		t.Objects[at] = nudgedObj(t.Objects[at], pick)
		return t
	}
	if len(t.Arrays) > 0 && pick(2) == 0 {
		t.Arrays = []api.Arr{nudgedArr(t.Arrays[0], pick)}
		return t
	}
	switch pick(7) {
	case 0:
		t.Null = !t.Null
	case 1:
		t.False, t.True = t.True, !t.False
	case 2:
		t.Nums = nudgedNums(t.Nums, pick)
	case 3:
		t.Texts, t.AnyText = nudgedTexts(t.Texts, pick), false
	case 4:
		t.AnyText, t.Texts = !t.AnyText, nil
	case 5:
		return nudgedLists(t, pick)
	case 6:
		return [...]api.Type{Every(), {}}[pick(2)]
	}
	return t
}

// nudgedLists has an alternative more or fewer.
func nudgedLists(t api.Type, pick Source) api.Type {
	at := pick(len(t.Objects) + 1)
	switch {
	case pick(3) == 0 && len(t.Arrays) > 0:
		t.Arrays = nil
	case pick(3) == 0:
		t.Arrays = []api.Arr{drawnArr(pick, 1)}
	case at < len(t.Objects):
		t.Objects = slices.Delete(slices.Clone(t.Objects), at, at+1)
	default:
		t.Objects = append(slices.Clone(t.Objects), DrawnObj(pick, 1))
	}
	return t
}

// nudgedNums has another bound, or none, or no span.
func nudgedNums(nums []api.Span, pick Source) []api.Span {
	if len(nums) == 0 {
		return []api.Span{drawnSpan(pick)}
	}
	out := nums[0]
	switch off := int64(2*pick(2) - 1); pick(5) {
	case 0:
		out.Low = near(out.Low, off)
	case 1:
		out.High = near(out.High, off)
	case 2:
		out.Low = ""
	case 3:
		out.High = ""
	case 4:
		return nil
	}
	if out.Low != "" && out.High != "" && whole(out.Low).Cmp(whole(out.High)) > 0 {
		out.Low = out.High
	}
	return []api.Span{out}
}

// nudgedTexts has a text more or fewer.
func nudgedTexts(texts []string, pick Source) []string {
	if at := pick(2 * (len(texts) + 1)); at < len(texts) {
		return slices.Delete(slices.Clone(texts), at, at+1)
	}
	out := append(slices.Clone(texts), one(pick, Names()))
	slices.Sort(out)
	return slices.Compact(out)
}

// nudgedArr has another bound, or another item.
func nudgedArr(a api.Arr, pick Source) api.Arr {
	switch off := 2*pick(2) - 1; pick(4) {
	case 0:
		a.Min = max(a.Min+off, 0)
	case 1:
		a.Max = max(a.Max+off, -1)
	case 2:
		a.Max = [...]int{-1, a.Min}[pick(2)]
	case 3:
		a.Item = NudgedType(a.Item, pick)
	}
	if a.Max >= 0 {
		a.Max = max(a.Min, a.Max)
	}
	switch {
	case a.Max == 0:
		a.Item = api.Type{}
	case AlikeTypes(a.Item, api.Type{}):
		a.Item.Null = true
	}
	return a
}

// nudgedObj has another field or rest, a name more or fewer, or one that must be there or no longer.
func nudgedObj(o api.Obj, pick Source) api.Obj {
	o.Names, o.Fields, o.Must = slices.Clone(o.Names), slices.Clone(o.Fields), slices.Clone(o.Must)
	at := pick(len(o.Names) + 1)
	switch act := pick(5); {
	case act == 0:
		return withName(o, one(pick, Names()), pick)
	case at == len(o.Names):
		o.Rest = NudgedType(o.Rest, pick)
	case act == 1:
		o.Names, o.Fields, o.Must = slices.Delete(o.Names, at, at+1), slices.Delete(o.Fields, at, at+1), slices.Delete(o.Must, at, at+1)
	case act == 2:
		o.Must[at] = !o.Must[at] && !AlikeTypes(o.Fields[at], api.Type{})
	default:
		o.Fields[at] = NudgedType(o.Fields[at], pick)
		o.Must[at] = o.Must[at] && !AlikeTypes(o.Fields[at], api.Type{})
	}
	return o
}

// withName has a name more, if it hasn't got it: with the rest's type, which changes nothing, or another one.
func withName(o api.Obj, name string, pick Source) api.Obj {
	at, found := slices.BinarySearch(o.Names, name)
	if found {
		return o
	}
	field := [...]func() api.Type{func() api.Type { return o.Rest }, func() api.Type { return DrawnType(pick, 1) }}[pick(2)]()
	o.Names, o.Fields, o.Must = slices.Insert(o.Names, at, name), slices.Insert(o.Fields, at, field), slices.Insert(o.Must, at, false)
	return o
}
