package specimen

import (
	"math/big"
	"slices"
	"strconv"
	"strings"

	"hallmark/api"
)

// Every is the type of all values.
func Every() api.Type { return api.Type{All: true} }

// Nums is the type of the numbers from a bound to another one.
func Nums(low, high string) api.Type {
	return api.Type{Nums: []api.Span{{Low: low, High: high}}}
}

// Texts is the type of these texts.
func Texts(texts ...string) api.Type { return api.Type{Texts: texts} }

// Arrays is the type of arrays of so many items of a type.
func Arrays(item api.Type, least, most int) api.Type {
	return api.Type{Arrays: []api.Arr{{Item: item, Min: least, Max: most}}}
}

// Objects is the type of these alternatives.
func Objects(alternatives ...api.Obj) api.Type { return api.Type{Objects: alternatives} }

// Obj is an alternative with a type for the rest, and fields: a name with a mark ! behind it must be there.
func Obj(rest api.Type, names []string, fields ...api.Type) api.Obj {
	out := api.Obj{Rest: rest, Fields: fields}
	for _, name := range names {
		bare, must := strings.CutSuffix(name, "!")
		out.Names, out.Must = append(out.Names, bare), append(out.Must, must)
	}
	return out
}

// DrawnType is a well shaped type, at most so high.
func DrawnType(pick Source, high int) api.Type {
	if pick(8) == 0 {
		return Every()
	}
	out := api.Type{Null: pick(3) == 0, False: pick(4) == 0, True: pick(4) == 0}
	if pick(3) == 0 {
		out.Nums = []api.Span{drawnSpan(pick)}
	}
	switch pick(4) {
	case 0:
		out.AnyText = true
	case 1:
		out.Texts = drawnNames(pick)
	}
	if high > 0 && pick(2) == 0 {
		out.Arrays = []api.Arr{drawnArr(pick, high-1)}
	}
	for range pick(4) {
		if high > 0 {
			out.Objects = append(out.Objects, DrawnObj(pick, high-1))
		}
	}
	return out
}

// drawnNames are names that rise, often none.
func drawnNames(pick Source) []string {
	var out []string
	for range pick(5) {
		out = append(out, one(pick, Names()))
	}
	slices.Sort(out)
	return slices.Compact(out)
}

// drawnSpan is a span that has a number.
func drawnSpan(pick Source) api.Span {
	bounds := append(Numbers(), "", "", "")
	out := api.Span{Low: one(pick, bounds), High: one(pick, bounds)}
	if out.Low != "" && out.High != "" && whole(out.Low).Cmp(whole(out.High)) > 0 {
		out.Low, out.High = out.High, out.Low
	}
	return out
}

// whole is a number as the library has it.
func whole(s string) *big.Int {
	out, _ := new(big.Int).SetString(s, 10)
	return out
}

// drawnArr is an alternative of arrays whose items are at most so high.
func drawnArr(pick Source, high int) api.Arr {
	out := api.Arr{Min: pick(4), Max: -1}
	if pick(2) == 0 {
		out.Max = out.Min + pick(3)
	}
	if out.Max == 0 {
		return out
	}
	out.Item = DrawnType(pick, high)
	if AlikeTypes(out.Item, api.Type{}) {
		out.Item.Null = true
	}
	return out
}

// DrawnObj is a well shaped alternative whose fields are at most so high.
func DrawnObj(pick Source, high int) api.Obj {
	out := api.Obj{Names: drawnNames(pick), Rest: DrawnType(pick, high)}
	for range out.Names {
		field := DrawnType(pick, high)
		must := pick(2) == 0 && !AlikeTypes(field, api.Type{})
		out.Fields, out.Must = append(out.Fields, field), append(out.Must, must)
	}
	return out
}

// WellShapedTypes are types of all kinds: first those at the edges, then so many that are drawn.
func WellShapedTypes(pick Source, many int) []api.Type {
	null, never := api.Type{Null: true}, api.Type{}
	out := []api.Type{never, Every(), null, {False: true}, {True: true}, {AnyText: true}, {Null: true, False: true, True: true, AnyText: true}, Texts(""), Texts("a", "b"), Texts("a", "b", "c"), Texts("b"), Texts("\uFFFF", "\U00010000")}
	out = append(out, Nums("", ""), Nums("", "5"), Nums("5", ""), Nums("5", "5"), Nums("5", "10"), Nums("-10", "-9"), Nums("-9223372036854775809", "9223372036854775808"), Nums("", "123456789012345678901234567890"))
	for _, item := range []api.Type{null, Every(), Texts("a"), Arrays(never, 0, 0)} {
		out = append(out, Arrays(item, 0, -1), Arrays(item, 0, 1), Arrays(item, 1, 1), Arrays(item, 2, -1), Arrays(item, 1, 12))
	}
	out = append(out, Arrays(never, 0, 0), Objects(Obj(never, nil)), Objects(Obj(Every(), nil)), Objects(Obj(null, []string{"a"}, never)), Objects(Obj(never, []string{"a!"}, null)))
	out = append(out, Objects(Obj(null, []string{"a", "b!"}, null, Every())), Objects(Obj(null, []string{"a!", "b"}, null, Every())), Objects(Obj(never, nil), Obj(never, nil)), Objects(Obj(never, []string{"b"}, null), Obj(never, []string{"a"}, null)))
	for range many {
		out = append(out, DrawnType(pick, 3))
	}
	return out
}

// NestedType is a type within so many others: arrays, and fields and rests of objects.
func NestedType(t api.Type, high int) api.Type {
	for i := range high {
		switch i % 3 {
		case 0:
			t = Arrays(t, 0, -1)
		case 1:
			t = Objects(Obj(api.Type{}, []string{"a"}, t))
		case 2:
			t = Objects(Obj(t, nil))
		}
	}
	return t
}

// AlikeTypes says whether two types are so field by field, a list that is nil being like an empty one.
func AlikeTypes(a, b api.Type) bool {
	return alikeFlags(a, b) && slices.Equal(a.Nums, b.Nums) && slices.Equal(a.Texts, b.Texts) && slices.EqualFunc(a.Arrays, b.Arrays, alikeArrs) && slices.EqualFunc(a.Objects, b.Objects, alikeObjs)
}

// alikeFlags says it of what is set.
func alikeFlags(a, b api.Type) bool {
	return a.All == b.All && a.Null == b.Null && a.False == b.False && a.True == b.True && a.AnyText == b.AnyText
}

func alikeArrs(a, b api.Arr) bool {
	return a.Min == b.Min && a.Max == b.Max && AlikeTypes(a.Item, b.Item)
}

func alikeObjs(a, b api.Obj) bool {
	return slices.Equal(a.Names, b.Names) && slices.Equal(a.Must, b.Must) && slices.EqualFunc(a.Fields, b.Fields, AlikeTypes) && AlikeTypes(a.Rest, b.Rest)
}

// In says whether a well shaped value is of a well shaped type, by the document's words.
func In(v api.Value, t api.Type) bool {
	if t.All {
		return true
	}
	switch v.Kind {
	case api.Null:
		return t.Null
	case api.False:
		return t.False
	case api.True:
		return t.True
	case api.Number:
		return slices.ContainsFunc(t.Nums, func(s api.Span) bool { return inSpan(v.Num, s) })
	case api.Text:
		return t.AnyText || slices.Contains(t.Texts, v.Text)
	case api.Array:
		return slices.ContainsFunc(t.Arrays, func(a api.Arr) bool { return inArr(v.Items, a) })
	}
	return slices.ContainsFunc(t.Objects, func(o api.Obj) bool { return inObj(v, o) })
}

func inSpan(n string, s api.Span) bool {
	return (s.Low == "" || atMost(s.Low, n)) && (s.High == "" || atMost(n, s.High))
}

// atMost says whether a number isn't above another one.
func atMost(a, b string) bool {
	x, large := strconv.Atoi(a)
	y, larger := strconv.Atoi(b)
	if large == nil && larger == nil { // most are, and this is quicker
		return x <= y
	}
	return whole(a).Cmp(whole(b)) <= 0
}

func inArr(items []api.Value, a api.Arr) bool {
	strange := func(item api.Value) bool { return !In(item, a.Item) }
	return len(items) >= a.Min && (a.Max < 0 || len(items) <= a.Max) && !slices.ContainsFunc(items, strange)
}

func inObj(v api.Value, o api.Obj) bool {
	for i, name := range o.Names {
		if o.Must[i] && !slices.Contains(v.Keys, name) {
			return false
		}
	}
	for i, key := range v.Keys {
		of := o.Rest
		if at := slices.Index(o.Names, key); at >= 0 {
			of = o.Fields[at]
		}
		if !In(v.Items[i], of) {
			return false
		}
	}
	return true
}
