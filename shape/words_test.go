package shape_test

import (
	"math/big"
	"math/rand"
	"slices"
	"strconv"
	"unicode/utf8"

	"hallmark/api"
	"hallmark/reader"
	"hallmark/specimen"
	"hallmark/value"
)

var (
	num, text, list, object, kind        = specimen.Num, specimen.Text, specimen.List, specimen.Object, specimen.Kind
	nums, texts, arrays, objects, objOf  = specimen.Nums, specimen.Texts, specimen.Arrays, specimen.Objects, specimen.Obj
	never, every, null                   = api.Type{}, specimen.Every(), api.Type{Null: true}
	anyNumber, anyText, anyList, anyKeys = nums("", ""), api.Type{AnyText: true}, arrays(every, 0, -1), objects(api.Obj{Rest: every})
)

func random(seed int64) specimen.Source { return rand.New(rand.NewSource(seed)).Intn }

// js is the value of a text of JSON.
func js(s string) api.Value {
	v, e, _ := reader.One(s)
	if e != api.OK {
		panic(s)
	}
	return v
}

// The chapter's words, said once more.

// partsOf are a type's parts.
func partsOf(t api.Type) []api.Type {
	out := []api.Type{t}
	for _, a := range t.Arrays {
		out = append(out, partsOf(a.Item)...)
	}
	for _, o := range t.Objects {
		for _, f := range append(slices.Clone(o.Fields), o.Rest) {
			out = append(out, partsOf(f)...)
		}
	}
	return out
}

// formedOf says whether all that the chapter asks for holds of each part.
func formedOf(t api.Type) bool {
	for _, part := range partsOf(t) {
		if !allOf(part) || !numsOf(part) || !textsOf(part) || !arraysOf(part) || !objectsOf(part) {
			return false
		}
	}
	return true
}

func isNever(t api.Type) bool { return specimen.AlikeTypes(t, api.Type{}) }

func allOf(t api.Type) bool { return !t.All || specimen.AlikeTypes(t, every) }

func numsOf(t api.Type) bool {
	if len(t.Nums) == 0 {
		return true
	}
	low, high := t.Nums[0].Low, t.Nums[0].High
	return len(t.Nums) == 1 && (low == "" || isNumber(low)) && (high == "" || isNumber(high)) && (low == "" || high == "" || big10(low).Cmp(big10(high)) <= 0)
}

func big10(s string) *big.Int {
	n, _ := new(big.Int).SetString(s, 10)
	return n
}

// isNumber says whether a text is what the number that it says is told as.
func isNumber(s string) bool {
	n := big10(s)
	return n != nil && n.String() == s
}

func textsOf(t api.Type) bool { return risingOf(t.Texts) && (!t.AnyText || len(t.Texts) == 0) }

func risingOf(l []string) bool {
	once := slices.Compact(slices.Sorted(slices.Values(l)))
	stray := func(s string) bool { return !utf8.ValidString(s) }
	return slices.Equal(l, once) && !slices.ContainsFunc(l, stray)
}

func arraysOf(t api.Type) bool {
	if len(t.Arrays) == 0 {
		return true
	}
	a := t.Arrays[0]
	return len(t.Arrays) == 1 && a.Min >= 0 && (a.Max == -1 || a.Max >= a.Min) && isNever(a.Item) == (a.Max == 0)
}

func objectsOf(t api.Type) bool {
	for _, o := range t.Objects {
		if len(o.Fields) != len(o.Names) || len(o.Must) != len(o.Names) || !risingOf(o.Names) {
			return false
		}
		for i := range o.Names {
			if o.Must[i] && isNever(o.Fields[i]) {
				return false
			}
		}
	}
	return true
}

// rowOf is a row of kinds, as numbers of kinds.
func rowOf(row uint8) []int {
	var out []int
	for k := range 7 {
		if row>>k%2 == 1 {
			out = append(out, k)
		}
	}
	return out
}

// kindTypes are the types of all values of one kind, by the kind's number.
func kindTypes() []api.Type {
	return []api.Type{null, {False: true}, {True: true}, anyNumber, anyText, anyList, anyKeys}
}

// ofKindsOf is the type of some kinds.
func ofKindsOf(kinds []int) api.Type {
	if len(kinds) == 7 {
		return every
	}
	var out api.Type
	for _, k := range kinds {
		one := kindTypes()[k]
		out.Null, out.False, out.True, out.AnyText = out.Null || one.Null, out.False || one.False, out.True || one.True, out.AnyText || one.AnyText
		out.Nums, out.Arrays, out.Objects = append(out.Nums, one.Nums...), append(out.Arrays, one.Arrays...), append(out.Objects, one.Objects...)
	}
	return out
}

// kindsIn are the kinds that some values have, rising.
func kindsIn(l []api.Value) []int {
	var out []int
	for k := range 7 {
		if slices.ContainsFunc(l, func(v api.Value) bool { return v.Kind == k }) {
			out = append(out, k)
		}
	}
	return out
}

// nearOf is the near type of a value with a height.
func nearOf(v api.Value, h int) api.Type {
	switch {
	case v.Kind < api.Number:
		return kindTypes()[v.Kind]
	case v.Kind == api.Number:
		return nums(v.Num, v.Num)
	case v.Kind == api.Text:
		return texts(v.Text)
	case h == 0:
		return every
	}
	var inner []api.Type
	for _, item := range v.Items {
		inner = append(inner, nearOf(item, h-1))
	}
	blurred := every
	if h > 1 {
		blurred = ofKindsOf(kindsIn(v.Items))
	}
	switch {
	case v.Kind == api.Array && len(inner) == 0:
		return arrays(never, 0, 0)
	case v.Kind == api.Array && alikeAll(inner):
		return arrays(inner[0], len(inner), len(inner))
	case v.Kind == api.Array:
		return arrays(blurred, len(inner), len(inner))
	case len(v.Keys) > 12:
		return objects(api.Obj{Rest: blurred})
	}
	return objects(api.Obj{Names: v.Keys, Fields: inner, Must: slices.Repeat([]bool{true}, len(inner))})
}

func alikeAll(l []api.Type) bool {
	for _, t := range l {
		if !specimen.AlikeTypes(t, l[0]) {
			return false
		}
	}
	return true
}

func heightOf(t api.Type) int {
	highest := -1
	for _, a := range t.Arrays {
		highest = max(highest, heightOf(a.Item))
	}
	for _, o := range t.Objects {
		for _, f := range append(slices.Clone(o.Fields), o.Rest) {
			highest = max(highest, heightOf(f))
		}
	}
	return highest + 1
}

// told is a type as a value, so that the order of values (chapter 3) is the order of the types: null is ahead of all numbers, a text behind them.
func told(t api.Type) api.Value {
	out := list(flag(t.All), flag(t.Null), flag(t.False), flag(t.True), list(), flag(t.AnyText), list(), list(), list())
	for _, s := range t.Nums {
		out.Items[4].Items = append(out.Items[4].Items, list(bound(s.Low, api.Value{}), bound(s.High, text(""))))
	}
	out.Items[6] = words(t.Texts)
	for _, a := range t.Arrays {
		most := num(strconv.Itoa(a.Max))
		if a.Max == -1 {
			most = text("")
		}
		out.Items[7].Items = append(out.Items[7].Items, list(num(strconv.Itoa(a.Min)), most, told(a.Item)))
	}
	for _, o := range t.Objects {
		must, fields := list(), list()
		for _, m := range o.Must {
			must.Items = append(must.Items, flag(m))
		}
		for _, f := range o.Fields {
			fields.Items = append(fields.Items, told(f))
		}
		out.Items[8].Items = append(out.Items[8].Items, list(words(o.Names), must, fields, told(o.Rest)))
	}
	return out
}

func flag(b bool) api.Value {
	if b {
		return kind(api.True)
	}
	return kind(api.False)
}

func bound(s string, none api.Value) api.Value {
	if s == "" {
		return none
	}
	return num(s)
}

func words(l []string) api.Value {
	out := list()
	for _, s := range l {
		out.Items = append(out.Items, text(s))
	}
	return out
}

// orderOf is the order of two types.
func orderOf(a, b api.Type) int { return value.Cmp(told(a), told(b)) }
