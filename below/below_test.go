package below_test

import (
	"fmt"
	"math"
	"slices"
	"testing"

	"hallmark/api"
	"hallmark/below"
	"hallmark/shape"
	"hallmark/specimen"
)

// isSpan holds Span to what is written out, and to the words.
func isSpan(t *testing.T, a, b api.Span, want bool) {
	t.Helper()
	if got := below.Span(a, b); got != want || spanOf(a, b) != want {
		t.Errorf("Span(%v, %v) = %v, by the words %v, want %v", a, b, got, spanOf(a, b), want)
	}
}

func TestP12_1Examples(t *testing.T) {
	isSpan(t, api.Span{Low: "3", High: "5"}, api.Span{High: "5"}, true)
	isSpan(t, api.Span{High: "5"}, api.Span{Low: "3", High: "5"}, false)
	isSpan(t, api.Span{Low: "5", High: "3"}, api.Span{Low: "7", High: "7"}, true)
}

// Bounds beside each other, one, both or none missing, the wrong way round, of one number; small ones and ones far greater than an int.
func TestP12_1Bounds(t *testing.T) {
	const huge = "1234567890123456789012345678901234567890"
	for _, row := range [][]string{
		{"", "-2", "-1", "0", "1", "2"}, {"", "8", "9", "10", "11"}, {"", "-11", "-10", "-9", "-8"}, {"", "99", "100", "-99", "-100"},
		{"", "9223372036854775806", "9223372036854775807", "9223372036854775808"}, {"", "-9223372036854775807", "-9223372036854775808", "-9223372036854775809"},
		{"", huge + "7", huge + "8", huge + "9", "-" + huge + "7", "-" + huge + "8"},
	} {
		for a := range spans(row) {
			for b := range spans(row) {
				isSpan(t, a, b, spanOf(a, b))
			}
		}
	}
}

// spans are all with bounds among these.
func spans(bounds []string) func(yield func(api.Span) bool) {
	return func(yield func(api.Span) bool) {
		for _, low := range bounds {
			for _, high := range bounds {
				if !yield(api.Span{Low: low, High: high}) {
					return
				}
			}
		}
	}
}

// Each of the two sides of a span alone decides.
func TestP12_1Sides(t *testing.T) {
	of := func(low, high string) api.Span { return api.Span{Low: low, High: high} }
	for _, row := range []struct {
		a, b api.Span
		want bool
	}{
		{of("", ""), of("", ""), true}, {of("", ""), of("", "5"), false}, {of("", ""), of("5", ""), false}, {of("", ""), of("5", "4"), false},
		{of("4", ""), of("4", ""), true}, {of("5", ""), of("4", ""), true}, {of("3", ""), of("4", ""), false}, {of("", "4"), of("", "4"), true}, {of("", "3"), of("", "4"), true}, {of("", "5"), of("", "4"), false},
		{of("4", ""), of("", "4"), false}, {of("", "4"), of("4", ""), false}, {of("4", "4"), of("4", "4"), true}, {of("4", "4"), of("5", "3"), false}, {of("5", "3"), of("6", "1"), true}, {of("5", "4"), of("", ""), true},
		{of("4", "4"), of("4", ""), true}, {of("4", "4"), of("", "4"), true}, {of("4", "5"), of("4", "4"), false}, {of("3", "4"), of("4", "4"), false}, {of("10", "10"), of("9", "11"), true}, {of("-10", ""), of("-9", ""), false}, {of("-10", "-9"), of("-10", "-9"), true},
	} {
		isSpan(t, row.a, row.b, row.want)
	}
}

// check holds Below and Apart to the words, both ways round, and to the rules of memory.
func check(t *testing.T, a, b api.Type) {
	t.Helper()
	belowIs(t, a, b, belowOf(a, b))
	belowIs(t, b, a, belowOf(b, a))
	_, common := specimen.CommonOf(a, b)
	apartIs(t, a, b, !common)
}

// isBelow holds Below to what is written out, which is what the words say, and to the rules of memory.
func isBelow(t *testing.T, a, b api.Type, want bool) {
	t.Helper()
	belowIs(t, a, b, want)
	if !shape.Formed(a) || !shape.Formed(b) || belowOf(a, b) != want {
		t.Errorf("%s, %s: by the words not %v", short(a), short(b), want)
	}
}

func belowIs(t *testing.T, a, b api.Type, want bool) {
	t.Helper()
	x, y := specimen.RoomyType(a), specimen.RoomyType(b)
	if got := below.Below(x, y); got != want {
		t.Errorf("Below(%s, %s) = %v", short(a), short(b), got)
	}
	if !specimen.UntouchedType(x, a) || !specimen.UntouchedType(y, b) {
		t.Errorf("what was given was changed: %s, %s", short(a), short(b))
	}
}

// isApart holds Apart to what is written out, which is what the words say, both ways round, and to the rules of memory.
func isApart(t *testing.T, a, b api.Type, want bool) {
	t.Helper()
	apartIs(t, a, b, want)
	if _, common := specimen.CommonOf(a, b); !shape.Formed(a) || !shape.Formed(b) || common == want {
		t.Errorf("%s, %s: by the words not %v", short(a), short(b), want)
	}
}

func apartIs(t *testing.T, a, b api.Type, want bool) {
	t.Helper()
	x, y := specimen.RoomyType(a), specimen.RoomyType(b)
	if got, back := below.Apart(x, y), below.Apart(y, x); got != want || back != want {
		t.Errorf("Apart(%s, %s) = %v, and the other way round %v", short(a), short(b), got, back)
	}
	if !specimen.UntouchedType(x, a) || !specimen.UntouchedType(y, b) {
		t.Errorf("what was given was changed: %s, %s", short(a), short(b))
	}
}

// rooms are types around another one: one lies in the other there just if it does by itself.
func rooms(a api.Type) []api.Type {
	ab := []string{"a", "b"}
	out := []api.Type{objects(objOf(never, ab[:1], a)), objects(objOf(a, nil)), objects(objOf(a, []string{"a!", "b"}, null, every)), objects(objOf(never, []string{"c!"}, every), objOf(null, ab, null, a)), objects(objOf(never, ab, a, a), objOf(anyText, []string{"a!"}, truth))}
	if !specimen.IsNever(a) { // no array has such an item, and no field that must be there
		out = append(out, specimen.AroundType(a)...)
		out = append(out, arrays(a, 1, 1), arrays(a, 0, math.MaxInt), objects(objOf(a, []string{"b!"}, a)))
	}
	return out
}

// isBelowEverywhere is likewise, at the top and inside others.
func isBelowEverywhere(t *testing.T, a, b api.Type, want bool) {
	t.Helper()
	isBelow(t, a, b, want)
	in, around := rooms(a), rooms(b)
	for i := range min(len(in), len(around)) {
		isBelow(t, in[i], around[i], want)
	}
}

func TestP12_2Examples(t *testing.T) {
	isBelow(t, never, never, true)
	isBelow(t, every, every, true)
	isBelow(t, every, laid, true)
	isBelow(t, null, api.Type{Null: true, True: true}, true)
	isBelow(t, texts("a"), texts("a", "b"), true)
	isBelow(t, texts("a"), anyText, true)
	isBelow(t, anyText, texts("a"), false)
	isBelow(t, arrays(never, 0, 0), arrays(null, 0, 3), true)
	isBelow(t, arrays(null, 1, -1), arrays(null, 1, 9), false)
	isBelow(t, objects(objOf(never, []string{"a!"}, null)), objects(objOf(null, nil)), true)
	a, b := objOf(never, []string{"a!"}, null), objOf(never, []string{"a!"}, truth)
	isBelow(t, objects(objOf(never, []string{"a!"}, api.Type{Null: true, True: true})), objects(a, b), false)
}

// row is two types and whether the first lies below the second, and the second below the first.
type row struct {
	a, b      api.Type
	up, downs bool
}

func checkRows(t *testing.T, rows []row) {
	t.Helper()
	for _, r := range rows {
		isBelowEverywhere(t, r.a, r.b, r.up)
		isBelowEverywhere(t, r.b, r.a, r.downs)
	}
}

// Never and every on each side; every laid out, and with each of its pieces taken away.
func TestP12_2NeverEvery(t *testing.T) {
	rows := []row{{never, never, true, true}, {never, every, true, false}, {every, every, true, true}, {every, laid, true, true}, {laid, laid, true, true}, {never, null, true, false}, {never, arrays(never, 0, 0), true, false}, {never, objects(objOf(never, nil)), true, false}, {arrays(every, 0, -1), every, true, false}}
	for _, part := range cut() {
		rows = append(rows, row{part, every, true, false}, row{part, laid, true, false})
	}
	deep := laid
	for range 5 {
		deep = api.Type{Null: true, False: true, True: true, Nums: laid.Nums, AnyText: true, Arrays: []api.Arr{{Item: deep, Max: -1}}, Objects: []api.Obj{{Rest: deep}}}
		rows = append(rows, row{every, deep, true, true})
	}
	for _, part := range cut() {
		inside := laid
		inside.Arrays = []api.Arr{{Item: part, Max: -1}}
		rows = append(rows, row{inside, every, true, false})
		inside = laid
		inside.Objects = []api.Obj{{Rest: part}}
		rows = append(rows, row{inside, every, true, false})
		inside.Objects = []api.Obj{objOf(every, []string{"a"}, part)}
		rows = append(rows, row{inside, every, true, false})
	}
	must := laid
	must.Objects = []api.Obj{objOf(every, []string{"a!"}, every)}
	may := laid
	may.Objects = []api.Obj{objOf(every, []string{"a"}, every)}
	several := laid
	several.Objects = []api.Obj{objOf(null, nil), objOf(every, nil), objOf(never, nil)}
	checkRows(t, append(rows, row{must, every, true, false}, row{may, every, true, true}, row{several, every, true, true}))
}

// cut are every laid out with something missing.
func cut() []api.Type {
	var out []api.Type
	for _, take := range []func(a *api.Type){
		func(a *api.Type) { a.Null = false }, func(a *api.Type) { a.False = false }, func(a *api.Type) { a.True = false }, func(a *api.Type) { a.Nums = nil }, func(a *api.Type) { a.AnyText = false },
		func(a *api.Type) { a.Arrays = nil }, func(a *api.Type) { a.Objects = nil }, func(a *api.Type) { a.Nums = nums("0", "").Nums }, func(a *api.Type) { a.Nums = nums("", "0").Nums },
		func(a *api.Type) { a.AnyText, a.Texts = false, []string{"a"} }, func(a *api.Type) { a.Arrays = arrays(every, 1, -1).Arrays }, func(a *api.Type) { a.Arrays = arrays(every, 0, 9).Arrays },
		func(a *api.Type) { a.Arrays = arrays(null, 0, -1).Arrays }, func(a *api.Type) { a.Objects[0].Rest = never }, func(a *api.Type) { a.Objects = objects(objOf(every, []string{"a"}, null)).Objects },
	} {
		a := specimen.LaidOut()
		take(&a)
		out = append(out, a)
	}
	return out
}

// Types of one kind each against types of the others, and of several.
func TestP12_2Kinds(t *testing.T) {
	ones := []api.Type{null, {False: true}, truth, nums("5", "5"), texts("a"), arrays(null, 0, -1), objects(objOf(null, nil))}
	add := func(a, b api.Type) api.Type {
		return api.Type{Null: a.Null || b.Null, False: a.False || b.False, True: a.True || b.True, Nums: slices.Concat(a.Nums, b.Nums), Texts: slices.Concat(a.Texts, b.Texts), Arrays: slices.Concat(a.Arrays, b.Arrays), Objects: slices.Concat(a.Objects, b.Objects)}
	}
	var rows []row
	for i := range 1 << len(ones) {
		for k := range 1 << len(ones) {
			var a, b api.Type
			for n, one := range ones {
				if i>>n&1 == 1 {
					a = add(a, one)
				}
				if k>>n&1 == 1 {
					b = add(b, one)
				}
			}
			isBelow(t, a, b, i&^k == 0)
			isApart(t, a, b, i&k == 0)
			if i&(i-1) == 0 && k&(k-1) == 0 {
				rows = append(rows, row{a, b, i&^k == 0, k&^i == 0})
			}
		}
	}
	checkRows(t, rows)
}

// Spans and texts in types: the same, fewer, more and others, and a type with none.
func TestP12_2NumsTexts(t *testing.T) {
	const huge = "1234567890123456789012345678901234567890"
	flags := api.Type{Null: true, True: true}
	checkRows(t, []row{
		{anyNumber, anyNumber, true, true}, {nums("3", "5"), nums("", "5"), true, false}, {nums("3", "5"), nums("3", ""), true, false}, {nums("3", ""), nums("", "5"), false, false}, {nums("3", "5"), nums("4", "6"), false, false}, {nums("5", "5"), nums("5", "5"), true, true}, {nums("5", "5"), nums("4", "6"), true, false},
		{nums(huge, huge), nums(huge[:39], ""), true, false}, {nums("-"+huge, huge), anyNumber, true, false}, {nums("-"+huge, huge), nums("-"+huge, huge[:39]+"1"), true, false}, {anyNumber, flags, false, false}, {anyNumber, never, false, true}, {anyNumber, laid, true, false}, {nums("9", "9"), nums("10", "10"), false, false},
		{texts("a"), texts("a"), true, true}, {texts("a"), texts("b"), false, false}, {texts("a", "b"), texts("b"), false, true}, {texts("a", "c"), texts("a", "b", "c"), true, false}, {texts("a", "c"), texts("b", "c", "d"), false, false}, {texts(""), texts("", "a"), true, false}, {texts("\U00010000"), texts("\uFFFF", "\U00010000"), true, false}, {texts("~", "\U00010000"), texts("\uFFFF", "\U00010000"), false, false},
		{anyText, anyText, true, true}, {anyText, texts("", "a", "b"), false, true}, {anyText, flags, false, false}, {texts("a"), flags, false, false}, {texts("a", "b", "c"), texts("a", "b", "c"), true, true}, {texts("a", "b", "c"), texts("a", "b", "d"), false, false}, {texts("a", "b", "c"), texts("b", "c"), false, true},
	})
}

// Arrays whose bounds are at, just above and just below the other's.
func TestP12_2Arrays(t *testing.T) {
	t.Parallel()
	both := api.Type{Null: true, True: true}
	rows := []row{
		{arrays(never, 0, 0), arrays(never, 0, 0), true, true}, {arrays(never, 0, 0), arrays(truth, 1, 1), false, false}, {arrays(never, 0, 0), arrays(truth, 0, -1), true, false}, {arrays(never, 0, 0), arrays(truth, 1, -1), false, false},
		{arrays(null, 0, -1), arrays(truth, 0, -1), false, false}, {arrays(null, 0, -1), arrays(both, 0, -1), true, false}, {arrays(null, 0, -1), arrays(never, 0, 0), false, true}, {arrays(null, 0, -1), arrays(null, 0, math.MaxInt), false, true}, {arrays(null, math.MaxInt, math.MaxInt), arrays(null, math.MaxInt-1, -1), true, false},
		{arrays(arrays(null, 1, 2), 3, 4), arrays(arrays(both, 0, 2), 3, -1), true, false}, {arrays(arrays(null, 1, 2), 3, 4), arrays(arrays(both, 2, 2), 3, -1), false, false}, {arrays(arrays(never, 0, 0), 1, 1), arrays(arrays(null, 0, 1), 1, 1), true, false}, {arrays(null, 0, 1), null, false, false},
	}
	for least := range 4 {
		for most := -1; most <= 5; most++ {
			for low := range 4 {
				for high := -1; high <= 5; high++ {
					if most == 0 || high == 0 || most > 0 && most < least || high > 0 && high < low {
						continue
					}
					in := least >= low && (high == -1 || most >= 0 && most <= high)
					around := low >= least && (most == -1 || high >= 0 && high <= most)
					rows = append(rows, row{arrays(null, least, most), arrays(null, low, high), in, around}, row{arrays(null, least, most), arrays(both, low, high), in, false})
				}
			}
		}
	}
	checkRows(t, rows)
}

// Objects: no names, the same, fewer, more and others; what must be there on either side; a rest that is never, every or another type.
func TestP12_2Objects(t *testing.T) {
	one := func(rest api.Type, names []string, fields ...api.Type) api.Type {
		return objects(objOf(rest, names, fields...))
	}
	both := api.Type{Null: true, True: true}
	a, am, ab := []string{"a"}, []string{"a!"}, []string{"a", "b"}
	checkRows(t, []row{
		{one(never, nil), one(never, nil), true, true}, {one(never, nil), one(every, nil), true, false}, {one(null, nil), one(both, nil), true, false}, {one(null, nil), one(truth, nil), false, false}, {one(every, nil), one(laid, nil), true, true}, {one(never, nil), null, false, false},
		{one(never, a, null), one(never, a, null), true, true}, {one(never, am, null), one(never, a, null), true, false}, {one(never, am, null), one(never, am, null), true, true}, {one(never, a, null), one(never, a, both), true, false}, {one(never, am, null), one(never, am, both), true, false}, {one(never, am, null), one(never, am, truth), false, false}, {one(never, am, both), one(never, a, null), false, false},
		{one(never, a, null), one(null, nil), true, false}, {one(never, am, null), one(null, nil), true, false}, {one(never, a, null), one(truth, nil), false, false}, {one(never, a, never), one(never, nil), true, true}, {one(null, a, never), one(null, nil), true, false}, {one(null, a, null), one(null, nil), true, true}, {one(null, a, every), one(null, nil), false, true}, {one(null, am, null), one(null, nil), true, false},
		{one(never, a, null), one(never, []string{"b"}, null), false, false}, {one(never, am, null), one(never, []string{"b!"}, null), false, false}, {one(never, am, null), one(null, []string{"b"}, truth), true, false}, {one(never, am, null), one(null, []string{"b!"}, truth), false, false}, {one(null, a, null), one(null, []string{"b"}, null), true, true}, {one(every, a, null), one(null, []string{"b"}, every), false, true},
		{one(never, ab, null, null), one(never, a, null), false, true}, {one(never, []string{"a!", "b!"}, null, null), one(null, am, null), true, false}, {one(never, []string{"a!", "b"}, null, null), one(null, []string{"a", "b!"}, null, null), false, false}, {one(never, []string{"a", "c"}, null, null), one(never, []string{"a", "b", "c"}, null, null, null), true, false}, {one(never, []string{"b", "c"}, null, truth), one(never, []string{"b", "c"}, truth, null), false, false},
		{one(null, nil), one(never, ab, null, null), false, true}, {one(null, nil), one(null, ab, null, both), true, false}, {one(null, nil), one(null, []string{"a", "b!"}, null, both), false, false}, {one(null, nil), one(null, ab, null, truth), false, false}, {one(every, a, never), one(every, a, null), true, false}, {one(every, a, never), one(every, am, null), false, false},
		{one(every, am, null), one(every, nil), true, false}, {one(laid, am, null), one(every, am, null), true, true}, {one(every, am, arrays(null, 1, 2)), one(every, am, arrays(both, 0, 2)), true, false}, {one(never, []string{"", "a", "~"}, null, null, null), one(null, []string{"\uFFFF", "\U00010000"}, null, null), true, false}, {one(never, []string{"", "a", "\U00010000"}, null, null, truth), one(null, []string{"\uFFFF", "\U00010000"}, null, null), false, false}, {one(never, []string{"", "é!"}, null, null), one(never, []string{"", "é", "\uFFFF"}, null, null, null), true, false},
	})
}

// No alternative, one, and several on each side.
func TestP12_2Alternatives(t *testing.T) {
	of := func(name string, a api.Type) api.Obj { return objOf(never, []string{name}, a) }
	a, b, c := of("a!", null), of("b!", null), of("c!", null)
	wide := objOf(null, nil)
	both := of("a!", api.Type{Null: true, True: true})
	split := objects(a, of("a!", truth))
	checkRows(t, []row{
		{never, objects(a), true, false}, {null, objects(a), false, false}, {objects(a), objects(a), true, true}, {objects(a), objects(b), false, false}, {objects(a), objects(a, b), true, false}, {objects(b), objects(a, b), true, false}, {objects(a, b), objects(b, a), true, true}, {objects(a, b), objects(a, c), false, false}, {objects(a, c), objects(a, b, c), true, false}, {objects(c, c, a), objects(a, c), true, true},
		{objects(a, b, c), objects(wide), true, false}, {objects(a, b, c), objects(c, wide), true, false}, {objects(wide), objects(a, b, c), false, true}, {objects(both), split, false, true}, {objects(both), objects(of("a!", truth), a, both), true, true}, {objects(wide), objects(objOf(null, []string{"a!"}, null), objOf(null, []string{"a"}, never)), false, true},
		{arrays(objects(both), 1, 1), arrays(split, 1, 1), false, true}, {objects(of("z", objects(both))), objects(of("z", split)), false, true}, {objects(of("z", objects(both)), a), objects(a, of("z", split)), false, true}, {objects(a, both), objects(both), true, true},
	})
}

// Types that are drawn, and what they become when one thing or a few are changed.
func TestP12_2P12_3Words(t *testing.T) {
	t.Parallel()
	pick := random(12)
	var told [2][2]int
	for range 3000 {
		a := specimen.DrawnType(pick, 3)
		if pick(3) > 0 {
			a = specimen.Single(a)
		}
		b := a
		for range pick(4) {
			b = specimen.NudgedType(b, pick)
		}
		check(t, a, b)
		told[number(below.Below(a, b))][number(below.Below(b, a))]++
	}
	for _, often := range []int{told[0][0], told[0][1], told[1][0], told[1][1]} {
		if often < 250 {
			t.Errorf("how often one lay in the other: %v", told)
		}
	}
}

func number(b bool) int {
	if b {
		return 1
	}
	return 0
}

// Any well shaped type against any other.
func TestP12_2P12_3Pairs(t *testing.T) {
	t.Parallel()
	all := specimen.WellShapedTypes(random(3), 40)
	for i, a := range all {
		for _, b := range all[:i+1] {
			check(t, a, b)
		}
	}
}

func TestP12_3Examples(t *testing.T) {
	isApart(t, nums("", "3"), nums("4", ""), true)
	isApart(t, arrays(null, 0, -1), arrays(truth, 0, -1), false)
	isApart(t, arrays(null, 1, -1), arrays(truth, 1, -1), true)
	a, b := objOf(never, []string{"a"}, null), objOf(never, []string{"a"}, truth)
	isApart(t, objects(a), objects(b), false)
	isApart(t, objects(objOf(never, []string{"a!"}, null)), objects(b), true)
}

// hulls are two types around others, which are apart there just if they are by themselves.
func hulls(a, b api.Type) [][2]api.Type {
	must, other := []string{"a!"}, objOf(never, []string{"c!"}, every)
	out := [][2]api.Type{
		{arrays(a, 1, -1), arrays(b, 0, -1)}, {arrays(a, 2, 3), arrays(b, 3, 3)}, {arrays(arrays(a, 1, 1), 1, 2), arrays(arrays(b, 0, 1), 2, 9)}, {arrays(a, 1, math.MaxInt), arrays(b, 1, 1)},
		{objects(objOf(never, must, a)), objects(objOf(never, must, b))}, {objects(objOf(null, must, a)), objects(objOf(b, nil))}, {objects(objOf(null, must, a)), objects(objOf(b, []string{"b"}, truth))}, {objects(objOf(every, must, a)), objects(objOf(never, []string{"a", "b"}, b, truth))}, {objects(objOf(every, []string{"a", "b!"}, null, a)), objects(objOf(every, []string{"a", "b"}, truth, b))},
		{objects(other, objOf(never, must, a)), objects(objOf(never, must, b))}, {objects(objOf(never, must, a)), objects(objOf(never, []string{"a!", "b!"}, b, null), objOf(b, nil))}, {api.Type{Null: true, Objects: objects(objOf(never, must, a)).Objects}, api.Type{True: true, Objects: objects(objOf(b, nil)).Objects}},
	}
	for range 3 {
		last := out[len(out)-1]
		out = append(out, [2]api.Type{objects(objOf(every, must, arrays(last[0], 1, 2))), objects(objOf(every, must, arrays(last[1], 0, -1)))})
	}
	return out
}

// isApartEverywhere is likewise, at the top and inside others.
func isApartEverywhere(t *testing.T, a, b api.Type, want bool) {
	t.Helper()
	isApart(t, a, b, want)
	if specimen.IsNever(a) || specimen.IsNever(b) {
		return
	}
	for _, two := range slices.Concat(hulls(a, b), hulls(b, a)) {
		isApart(t, two[0], two[1], want)
	}
	for _, two := range [][2]api.Type{{arrays(a, 0, -1), arrays(b, 0, 1)}, {objects(objOf(never, []string{"a"}, a)), objects(objOf(never, []string{"a"}, b))}, {objects(objOf(a, nil)), objects(objOf(b, nil))}, {objects(objOf(a, nil)), objects(objOf(null, []string{"a"}, b))}} {
		isApart(t, two[0], two[1], false) // the array without items, the object without fields
	}
}

// Each kind, at its edges, at the top and deep inside.
func TestP12_3Edges(t *testing.T) {
	const huge = "1234567890123456789012345678901234567890"
	falsity := api.Type{False: true}
	bars := arrays(null, 1, -1)
	for _, r := range []struct {
		a, b api.Type
		want bool
	}{
		{never, never, true}, {never, every, true}, {every, every, false}, {every, null, false}, {every, laid, false}, {laid, laid, false}, {every, arrays(never, 0, 0), false}, {every, texts(""), false}, {every, nums(huge, huge), false}, {every, objects(objOf(never, nil)), false}, {every, objects(objOf(never, []string{"a!"}, every)), false}, {every, truth, false}, {every, falsity, false}, {never, null, true},
		{null, null, false}, {null, falsity, true}, {null, truth, true}, {falsity, falsity, false}, {falsity, truth, true}, {truth, truth, false}, {api.Type{Null: true, True: true}, api.Type{False: true, True: true}, false}, {null, anyNumber, true}, {anyText, anyNumber, true},
		{anyNumber, anyNumber, false}, {nums("", "4"), nums("4", ""), false}, {nums("", "3"), nums("4", ""), true}, {nums("3", "5"), nums("5", "9"), false}, {nums("3", "5"), nums("6", "9"), true}, {nums("", "5"), nums("", "-5"), false}, {nums("5", ""), nums("-5", ""), false}, {nums("1", "9"), nums("3", "4"), false}, {nums(huge, huge), nums(huge[:39]+"1", ""), true}, {nums("", huge), nums(huge, ""), false}, {nums("9", "9"), nums("10", "10"), true}, {nums("-10", "-10"), nums("-9", "-9"), true},
		{anyText, anyText, false}, {anyText, texts(""), false}, {texts("a"), texts("b"), true}, {texts("a", "c"), texts("b", "c"), false}, {texts("a", "c"), texts("b", "d"), true}, {texts("a"), null, true}, {anyText, null, true}, {texts("b"), texts("a", "b", "c"), false},
		{arrays(never, 0, 0), arrays(never, 0, 0), false}, {arrays(never, 0, 0), arrays(null, 0, 1), false}, {arrays(never, 0, 0), bars, true}, {bars, bars, false}, {bars, arrays(truth, 0, -1), true}, {arrays(null, 0, 2), arrays(null, 3, -1), true}, {arrays(null, 0, 3), arrays(null, 3, -1), false}, {arrays(null, 2, 2), arrays(null, 1, 1), true}, {arrays(null, math.MaxInt, -1), arrays(truth, 0, -1), true}, {arrays(null, 0, 2), arrays(truth, 0, 3), false}, {arrays(null, 1, 2), arrays(truth, 1, 3), true}, {bars, null, true},
		{objects(objOf(never, nil)), objects(objOf(never, nil)), false}, {objects(objOf(never, nil)), objects(objOf(every, []string{"a!"}, null)), true}, {objects(objOf(null, nil)), objects(objOf(truth, nil)), false}, {objects(objOf(null, nil)), objects(objOf(every, []string{"a!"}, truth)), true}, {objects(objOf(null, nil)), objects(objOf(every, []string{"a"}, truth)), false}, {objects(objOf(null, []string{"a"}, truth)), objects(objOf(null, []string{"a!"}, truth)), false}, {objects(objOf(null, []string{"a"}, never)), objects(objOf(null, []string{"a!"}, null)), true}, {objects(objOf(null, []string{"a"}, never)), objects(objOf(null, []string{"b!"}, null)), false},
		{objects(objOf(never, []string{"a!"}, null)), objects(objOf(never, []string{"b!"}, null)), true}, {objects(objOf(never, []string{"a!"}, null)), objects(objOf(null, []string{"b!"}, null)), true}, {objects(objOf(null, []string{"a!"}, null)), objects(objOf(null, []string{"b!"}, null)), false}, {objects(objOf(null, []string{"a!"}, truth)), objects(objOf(null, []string{"b!"}, null)), true}, {objects(objOf(null, []string{"a", "b!"}, null, null)), objects(objOf(null, []string{"a", "b!"}, truth, null)), false}, {objects(objOf(null, nil)), null, true},
		{objects(objOf(never, []string{"a!"}, null), objOf(never, []string{"b!"}, null)), objects(objOf(never, []string{"c!"}, null), objOf(never, []string{"b!"}, null)), false}, {objects(objOf(never, []string{"a!"}, null), objOf(never, []string{"b!"}, null)), objects(objOf(never, []string{"c!"}, null), objOf(never, []string{"b!"}, truth)), true},
	} {
		if len(r.a.Arrays) > 0 && r.a.Arrays[0].Min > 9 { // no such array can be shown
			if below.Apart(r.a, r.b) != r.want || below.Apart(r.b, r.a) != r.want {
				t.Errorf("Apart(%s, %s)", short(r.a), short(r.b))
			}
			continue
		}
		isApartEverywhere(t, r.a, r.b, r.want)
		isApartEverywhere(t, r.b, r.a, r.want)
	}
}

// Two types that have an array in common, but a very long one only.
func TestP12_3Long(t *testing.T) {
	for _, n := range []int{1 << 40, math.MaxInt - 1, math.MaxInt} {
		for _, c := range []struct {
			a, b api.Type
			want bool
		}{
			{arrays(null, n, -1), arrays(null, 0, -1), false}, {arrays(null, n, n), arrays(null, n, -1), false}, {arrays(null, n, n), arrays(null, 0, n-1), true}, {arrays(null, n, n), arrays(truth, 0, n), true},
		} {
			if got, back := below.Apart(c.a, c.b), below.Apart(c.b, c.a); got != c.want || back != c.want {
				t.Errorf("Apart(%s, %s) = %v, %v", short(c.a), short(c.b), got, back)
			}
		}
	}
}

func ExampleBelow() {
	small := api.Type{Nums: []api.Span{{Low: "1", High: "3"}}}
	numbers := api.Type{Nums: []api.Span{{}}}
	fmt.Println(below.Below(small, numbers), below.Below(numbers, small), below.Apart(numbers, small))
	// Output: true false false
}
