package shape_test

import (
	"fmt"
	"math"
	"slices"
	"testing"

	"hallmark/api"
	"hallmark/shape"
	"hallmark/specimen"
	"hallmark/value"
)

// short is a text that can be read.
func short(what ...any) string {
	out := fmt.Sprint(what...)
	return out[:min(len(out), 2000)]
}

// check holds the calls of one type to the words, and to the rules of memory; of a type that isn't well shaped Kinds and Height answer something.
func check(t *testing.T, a api.Type) {
	t.Helper()
	given := specimen.RoomyType(a)
	formed, kinds, height, twin := shape.Formed(given), shape.Kinds(given), shape.Height(given), shape.Twin(given)
	if want := formedOf(a); formed != want {
		t.Errorf("Formed(%s) = %v", short(a), formed)
	}
	if formed && height != heightOf(a) {
		t.Errorf("Height(%s) = %d, want %d", short(a), height, heightOf(a))
	}
	if formed {
		checkKinds(t, a, kinds)
	}
	if !specimen.AlikeTypes(twin, a) {
		t.Errorf("Twin(%s) = %s", short(a), short(twin))
	}
	if !specimen.UntouchedType(given, a) {
		t.Errorf("%s was changed: %s", short(a), short(given))
	}
	if !specimen.OwnType(twin, given) {
		t.Errorf("Twin(%s): its memory isn't its own", short(a))
	}
}

// checkKinds holds a row of kinds to the values that a type has.
func checkKinds(t *testing.T, a api.Type, kinds uint8) {
	t.Helper()
	for k := range 8 {
		has := false
		if k < 7 {
			_, has = specimen.DrawnOf(a, specimen.Picks(nil), k)
		}
		if has != (kinds>>k%2 == 1) {
			t.Errorf("Kinds(%s) = %b: the kind %d", short(a), kinds, k)
		}
	}
}

// checkOf holds Of to the words, and to the rules of memory.
func checkOf(t *testing.T, v api.Value) {
	t.Helper()
	given := specimen.Roomy(v)
	got, e := shape.Of(given)
	if want := nearOf(v, 8); e != api.OK || !specimen.AlikeTypes(got, want) {
		t.Errorf("Of(%s) = %s, %d, want %s", short(v), short(got), e, short(want))
	}
	if !specimen.Untouched(given, v) {
		t.Errorf("Of(%s) changed what it was given", short(v))
	}
	if !specimen.PlacesOfTypes(got).Apart(specimen.PlacesOf(given)) {
		t.Errorf("Of(%s): its memory isn't its own", short(v))
	}
}

// checkCmp holds Cmp and Same of two well shaped types to the words.
func checkCmp(t *testing.T, a, b api.Type) {
	t.Helper()
	isCmp(t, a, b, orderOf(a, b))
}

// isCmp holds them to what is written out, in both directions.
func isCmp(t *testing.T, a, b api.Type, want int) {
	t.Helper()
	if got, back := shape.Cmp(a, b), shape.Cmp(b, a); got != want || back != -want {
		t.Errorf("Cmp of %s and %s = %d, and back %d, want %d", short(a), short(b), got, back, want)
	}
	if shape.Same(a, b) != (want == 0) || shape.Same(b, a) != (want == 0) {
		t.Errorf("Same of %s and %s = %v", short(a), short(b), want != 0)
	}
}

func TestP9_1Examples(t *testing.T) {
	for i, row := range []struct {
		t    api.Type
		want bool
	}{
		{never, true}, {api.Type{All: true, Null: true}, false}, {nums("5", "4"), false}, {nums("", "4"), true}, {texts("b", "a"), false}, {api.Type{AnyText: true, Texts: []string{"a"}}, false},
		{arrays(never, 0, 0), true}, {arrays(never, 0, -1), false}, {arrays(every, 0, 0), false}, {arrays(every, 2, 1), false},
		{objects(objOf(never, []string{"a!"}, never)), false}, {objects(objOf(never, []string{"a"}, never)), true},
		{every, true}, {nums("", ""), true}, {nums("4", ""), true}, {nums("4", "4"), true}, {nums("4", "5"), true}, {nums("-5", "-4"), true}, {nums("-4", "-5"), false}, {nums("9", "10"), true}, {nums("10", "9"), false},
		{nums("-123456789012345678901234567890", "123456789012345678901234567890"), true}, {nums("123456789012345678901234567890", "9"), false}, {nums("18446744073709551616", "1"), false}, {nums("9223372036854775808", "9223372036854775808"), true},
		{texts(""), true}, {texts("a", "b"), true}, {texts("a", "a"), false}, {texts("Z", "a", "é", "\uFFFF", "\U00010000"), true}, {texts("\U00010000", "\uFFFF"), false}, {texts("\xff"), false}, {texts("a", "a\x00"), true}, {anyText, true},
		{arrays(every, 0, 1), true}, {arrays(every, 1, 1), true}, {arrays(every, 1, 0), false}, {arrays(every, 0, -1), true}, {arrays(every, 7, -1), true}, {arrays(every, 7, -2), false}, {arrays(every, -1, -1), false}, {arrays(every, -1, 4), false}, {arrays(never, -1, 0), false}, {arrays(never, 0, 1), false},
		{objects(api.Obj{}), true}, {objects(api.Obj{Rest: every}), true}, {objects(api.Obj{}, api.Obj{}), true}, {objects(objOf(never, []string{"a!"}, null)), true}, {objects(objOf(never, []string{"b", "a"}, null, null)), false}, {objects(objOf(never, []string{"a", "a"}, null, null)), false}, {objects(objOf(never, []string{"\xff"}, null)), false},
		{objects(api.Obj{Names: []string{"a"}, Fields: []api.Type{null}}), false}, {objects(api.Obj{Names: []string{"a"}, Must: []bool{true}}), false}, {objects(api.Obj{Fields: []api.Type{null}, Must: []bool{false}}), false},
	} {
		if shape.Formed(row.t) != row.want {
			t.Errorf("%d: Formed(%v) = %v", i, row.t, !row.want)
		}
		check(t, row.t)
	}
}

// As many items as an int can say.
func TestP9_1ManyItems(t *testing.T) {
	if !shape.Formed(arrays(every, math.MaxInt, math.MaxInt)) || !shape.Formed(arrays(every, math.MaxInt, -1)) || shape.Formed(arrays(every, math.MaxInt, math.MaxInt-1)) || shape.Formed(arrays(every, math.MinInt, math.MinInt)) {
		t.Error("Formed of arrays of so many items")
	}
}

func TestP9_1WellShaped(t *testing.T) {
	for _, a := range specimen.WellShapedTypes(random(1), 3000) {
		if !shape.Formed(a) {
			t.Errorf("Formed(%v) = false", a)
		}
		check(t, a)
		for _, around := range specimen.AroundType(a) {
			if !isNever(a) && !shape.Formed(around) {
				t.Errorf("Formed(%s) = false", short(around))
			}
		}
	}
}

func TestP9_1Misshapen(t *testing.T) {
	for _, a := range specimen.WrongTypes() {
		if shape.Formed(a) {
			t.Errorf("Formed(%s) = true", short(a))
		}
		check(t, a)
	}
	pick := random(2)
	for range 2000 {
		a := specimen.SpoiltType(specimen.DrawnType(pick, 3), pick)
		if shape.Formed(a) {
			t.Errorf("Formed(%s) = true", short(a))
		}
		check(t, a)
	}
}

// Never inside a type: it may be a field that need not be there and the rest, not an item nor a field that must.
func TestP9_1NeverInside(t *testing.T) {
	for i, want := range []bool{false, false, false, true, false, true, true, true, true, true, true, true, false, false} {
		a := specimen.AroundType(never)[i]
		if shape.Formed(a) != want {
			t.Errorf("%d: Formed(%s) = %v", i, short(a), !want)
		}
		check(t, a)
	}
}

// A list that is nil and one that is empty are no different.
func TestP9_1EmptyLists(t *testing.T) {
	full := func(a api.Type) api.Type {
		a.Nums, a.Texts, a.Arrays, a.Objects = []api.Span{}, []string{}, []api.Arr{}, []api.Obj{}
		return a
	}
	for i, a := range []api.Type{never, every, null, anyText} {
		b := full(a)
		if !shape.Formed(b) || shape.Kinds(a) != shape.Kinds(b) || shape.Height(b) != 0 || !shape.Same(a, b) || !shape.Formed(arrays(b, 0, -1)) == (i > 0) || shape.Formed(arrays(b, 0, 0)) != (i == 0) {
			t.Errorf("%v and %v", a, b)
		}
	}
	empty := objects(api.Obj{Names: []string{}, Fields: []api.Type{}, Must: []bool{}, Rest: full(never)})
	if !shape.Formed(empty) || !shape.Same(empty, objects(api.Obj{})) || shape.Height(empty) != 1 {
		t.Errorf("%v", empty)
	}
	if shape.Formed(objects(objOf(never, []string{"a!"}, full(never)))) || !shape.Formed(objects(objOf(never, []string{"a"}, full(never)))) {
		t.Error("a field that is never, with empty lists")
	}
}

func TestP9_1NeverAndEvery(t *testing.T) {
	if a := shape.Never(); !specimen.AlikeTypes(a, api.Type{}) || !shape.Formed(a) {
		t.Errorf("Never() = %v", a)
	}
	if a := shape.Every(); !specimen.AlikeTypes(a, api.Type{All: true}) || !shape.Formed(a) {
		t.Errorf("Every() = %v", a)
	}
}

func TestP9_2P9_3EachRow(t *testing.T) {
	for i := range 256 {
		row := uint8(i)
		got, want := shape.OfKinds(row), ofKindsOf(rowOf(row))
		if !specimen.AlikeTypes(got, want) {
			t.Errorf("OfKinds(%d) = %v, want %v", row, got, want)
		}
		if kinds := shape.Kinds(got); kinds != row&127 {
			t.Errorf("Kinds(OfKinds(%d)) = %d", row, kinds)
		}
		if !specimen.OwnType(got, shape.OfKinds(row)) {
			t.Errorf("OfKinds(%d): its memory isn't its own", row)
		}
		check(t, got)
		again := shape.Twin(got)
		specimen.ScribbleType(got)
		if !specimen.AlikeTypes(shape.OfKinds(row), again) {
			t.Errorf("OfKinds(%d), behind what was written into its answer", row)
		}
	}
}

func TestP9_2Examples(t *testing.T) {
	for _, row := range []struct {
		kinds uint8
		want  api.Type
	}{
		{0, never}, {128, never}, {1, null}, {2, api.Type{False: true}}, {4, api.Type{True: true}}, {8, nums("", "")}, {16, anyText}, {32, arrays(every, 0, -1)}, {64, objects(api.Obj{Rest: every})}, {129, null},
		{9, api.Type{Null: true, Nums: []api.Span{{}}}}, {127, every}, {255, every}, {126, api.Type{False: true, True: true, Nums: []api.Span{{}}, AnyText: true, Arrays: []api.Arr{{Item: every, Max: -1}}, Objects: []api.Obj{{Rest: every}}}},
		{63, api.Type{Null: true, False: true, True: true, Nums: []api.Span{{}}, AnyText: true, Arrays: []api.Arr{{Item: every, Max: -1}}}}, {191, api.Type{Null: true, False: true, True: true, Nums: []api.Span{{}}, AnyText: true, Arrays: []api.Arr{{Item: every, Max: -1}}}},
	} {
		if got := shape.OfKinds(row.kinds); !specimen.AlikeTypes(got, row.want) {
			t.Errorf("OfKinds(%d) = %v", row.kinds, got)
		}
	}
}

func TestP9_3Examples(t *testing.T) {
	for i, row := range []struct {
		t    api.Type
		want uint8
	}{
		{api.Type{Null: true, Nums: []api.Span{{Low: "1", High: "1"}}}, 9}, {every, 127}, {never, 0}, {null, 1}, {api.Type{False: true}, 2}, {api.Type{True: true}, 4}, {nums("", "5"), 8}, {nums("5", ""), 8}, {anyText, 16}, {texts("a"), 16}, {texts("", "b"), 16},
		{arrays(never, 0, 0), 32}, {arrays(every, 3, 9), 32}, {objects(api.Obj{}), 64}, {objects(api.Obj{}, objOf(null, []string{"a!"}, every)), 64}, {api.Type{False: true, Texts: []string{"x"}, Objects: []api.Obj{{}}}, 82},
		{api.Type{Null: true, False: true, True: true, Nums: []api.Span{{}}, AnyText: true, Arrays: []api.Arr{{Item: every, Max: -1}}, Objects: []api.Obj{{Rest: every}}}, 127},
	} {
		if got := shape.Kinds(row.t); got != row.want {
			t.Errorf("%d: Kinds(%v) = %d", i, row.t, got)
		}
	}
}

func TestP9_5Examples(t *testing.T) {
	listOfList, _ := shape.Of(js("[[]]"))
	for i, row := range []struct {
		t    api.Type
		want int
	}{
		{never, 0}, {listOfList, 2}, {shape.OfKinds(32), 1}, {every, 0}, {shape.OfKinds(31), 0}, {shape.OfKinds(64), 1}, {objects(api.Obj{}), 1}, {arrays(never, 0, 0), 1}, {nums("1", "2"), 0}, {texts("a"), 0},
		{objects(api.Obj{Rest: arrays(every, 0, -1)}), 2}, {objects(objOf(never, []string{"a"}, arrays(every, 0, -1))), 2}, {objects(objOf(never, []string{"a", "b", "c"}, null, arrays(arrays(null, 1, 1), 0, -1), null)), 3}, {objects(api.Obj{}, objOf(never, []string{"a"}, objects(api.Obj{}))), 2}, {objects(objOf(never, []string{"a"}, objects(api.Obj{})), api.Obj{}), 2},
		{api.Type{Arrays: []api.Arr{{Item: null, Max: 1}}, Objects: []api.Obj{{Rest: anyList}}}, 2}, {api.Type{Arrays: []api.Arr{{Item: anyKeys, Max: 1}}, Objects: []api.Obj{{}}}, 2}, {specimen.NestedType(never, 9), 9}, {specimen.NestedType(arrays(null, 0, -1), 99), 100},
	} {
		if got := shape.Height(row.t); got != row.want {
			t.Errorf("%d: Height(%s) = %d", i, short(row.t), got)
		}
	}
}

// ladder are types that rise.
func ladder() []api.Type {
	a, huge := objOf(never, []string{"a"}, never), "123456789012345678901234567890"
	return []api.Type{
		never, objects(api.Obj{}), objects(api.Obj{}, api.Obj{}), objects(api.Obj{}, a), objects(api.Obj{Rest: objects(api.Obj{})}), objects(api.Obj{Rest: null}), objects(api.Obj{Rest: null}, api.Obj{}), objects(api.Obj{Rest: every}),
		objects(objOf(every, []string{""}, every)), objects(objOf(every, []string{"Z"}, every)), objects(a), objects(a, api.Obj{}), objects(objOf(null, []string{"a"}, never)), objects(objOf(never, []string{"a"}, null)), objects(objOf(never, []string{"a"}, every)), objects(objOf(never, []string{"a!"}, null)), objects(objOf(never, []string{"a!"}, every)),
		objects(objOf(never, []string{"a", "b"}, never, never)), objects(objOf(never, []string{"a", "b"}, never, null)), objects(objOf(never, []string{"a", "b"}, null, never)), objects(objOf(never, []string{"a", "b!"}, never, null)), objects(objOf(never, []string{"a!", "b"}, null, never)), objects(objOf(never, []string{"a!", "b!"}, null, null)), objects(objOf(never, []string{"aa"}, never)), objects(objOf(never, []string{"b"}, never)),
		arrays(never, 0, 0), {Arrays: []api.Arr{{}}, Objects: []api.Obj{{}}}, arrays(texts("a"), 0, 1), arrays(every, 0, 1), arrays(every, 0, 3), arrays(every, 0, 10), arrays(every, 0, math.MaxInt), arrays(null, 0, -1), arrays(every, 0, -1), arrays(null, 2, 2), arrays(null, 2, 3), arrays(null, 2, -1), arrays(null, 10, 10),
		texts(""), texts("", "a"), texts("A"), texts("a"), {Texts: []string{"a"}, Objects: []api.Obj{{}}}, {Texts: []string{"a"}, Arrays: []api.Arr{{}}}, texts("a", "b"), texts("a", "b", "c"), texts("a", "c"), texts("aa"), texts("b"), texts("é"), texts("\uFFFF"), texts("\U00010000"), anyText, {AnyText: true, Arrays: []api.Arr{{}}},
		nums("", "-"+huge), nums("", "-10"), nums("", "-9"), nums("", "5"), {Nums: []api.Span{{High: "5"}}, Texts: []string{"a"}}, {Nums: []api.Span{{High: "5"}}, AnyText: true}, nums("", "10"), nums("", huge), nums("", ""), nums("-"+huge, "-"+huge), nums("-"+huge, ""), nums("-10", "-9"), nums("-9", ""), nums("0", "0"), nums("5", "5"), nums("5", "10"), nums("5", "9223372036854775807"), nums("5", "9223372036854775808"), nums("5", "18446744073709551621"), nums("5", huge), nums("5", ""), nums("10", "10"), nums("9223372036854775808", ""), nums("18446744073709551617", ""), nums(huge, huge),
		{True: true}, {True: true, Nums: []api.Span{{}}}, {False: true}, {False: true, AnyText: true}, {False: true, True: true}, null, {Null: true, True: true}, {Null: true, False: true}, {Null: true, False: true, True: true, Nums: []api.Span{{}}, AnyText: true, Arrays: []api.Arr{{Item: every, Max: -1}}, Objects: []api.Obj{{Rest: every}}}, every,
	}
}

// Each type of the ladder against each, on every step of a nested one too, and all of them by threes.
func TestP9_6Ladder(t *testing.T) {
	row := ladder()
	around := func(a api.Type) []api.Type {
		return []api.Type{a, arrays(a, 1, 2), objects(api.Obj{Rest: a}), objects(objOf(null, []string{"a", "b"}, a, null)), objects(objOf(null, []string{"a", "b"}, null, a)), objects(api.Obj{}, api.Obj{Rest: a}), specimen.NestedType(a, 20)}
	}
	for i, a := range row {
		if !shape.Formed(a) {
			t.Errorf("%d isn't well shaped: %v", i, a)
		}
		for j, b := range row {
			want := min(max(i-j, -1), 1)
			inB := around(b)
			for k, inA := range around(a) {
				isCmp(t, inA, inB[k], want)
			}
			checkCmp(t, a, b)
		}
	}
}

func TestP9_6Examples(t *testing.T) {
	isCmp(t, never, every, -1)
	isCmp(t, null, api.Type{False: true}, 1)
	isCmp(t, nums("", "5"), nums("5", ""), -1)
	isCmp(t, objects(objOf(every, []string{"a"}, every)), objects(objOf(every, []string{"a!"}, never)), -1)
}

// What comes first decides, whatever the others say: the second of two types is greater in one thing, the first in all behind it.
func TestP9_6WhatGoesAhead(t *testing.T) {
	for from := range 9 {
		var a, b api.Type
		for i := from; i < 9; i++ {
			more, less := &a, &b
			if i == from {
				more, less = &b, &a
			}
			raise(i, more, less)
		}
		isCmp(t, a, b, -1)
		checkCmp(t, a, b)
	}
	least, most := api.Span{Low: "1", High: "9"}, api.Span{Low: "2", High: "3"}
	isCmp(t, api.Type{Nums: []api.Span{least}}, api.Type{Nums: []api.Span{most}}, -1)
	isCmp(t, arrays(every, 1, -1), arrays(null, 2, 2), -1)
	isCmp(t, arrays(every, 1, 2), arrays(null, 1, 3), -1)
	isCmp(t, objects(objOf(every, []string{"a!"}, every)), objects(objOf(null, []string{"b"}, null)), -1)
	isCmp(t, objects(objOf(every, []string{"a", "b!"}, every, every)), objects(objOf(null, []string{"a!", "b"}, null, null)), -1)
	isCmp(t, objects(objOf(every, []string{"a!", "b"}, null, every)), objects(objOf(null, []string{"a!", "b"}, every, null)), -1)
	isCmp(t, objects(objOf(every, []string{"a!"}, null), api.Obj{}), objects(objOf(null, []string{"a!"}, every)), -1)
	isCmp(t, objects(objOf(null, []string{"a!"}, null), api.Obj{Rest: every}), objects(objOf(every, []string{"a!"}, null)), -1)
}

// raise sets a thing, by its number in the order, so that the one type has more of it than the other.
func raise(i int, more, less *api.Type) {
	switch i {
	case 0:
		more.All = true
	case 1:
		more.Null = true
	case 2:
		more.False = true
	case 3:
		more.True = true
	case 4:
		more.Nums, less.Nums = []api.Span{{Low: "2", High: "2"}}, []api.Span{{Low: "1", High: "9"}}
	case 5:
		more.AnyText = true
	case 6:
		more.Texts, less.Texts = []string{"b"}, []string{"a", "b"}
	case 7:
		more.Arrays, less.Arrays = []api.Arr{{Item: null, Min: 2, Max: 2}}, []api.Arr{{Item: every, Min: 1, Max: -1}}
	case 8:
		more.Objects, less.Objects = []api.Obj{objOf(null, []string{"b"}, null)}, []api.Obj{objOf(every, []string{"a!"}, every), {}}
	}
}

func TestP9_6AgainstTheWords(t *testing.T) {
	all := specimen.WellShapedTypes(random(6), 300)
	var rows []api.Value
	for _, a := range all {
		rows = append(rows, told(a))
		isCmp(t, a, shape.Twin(a), 0)
	}
	for i, a := range all {
		for j, b := range all {
			if got, want := shape.Cmp(a, b), value.Cmp(rows[i], rows[j]); got != want || shape.Same(a, b) != (want == 0) {
				t.Errorf("Cmp(%v, %v) = %d, want %d", a, b, got, want)
			}
		}
	}
}

// Types that differ in one place alone are told apart there.
func TestP9_6OneDifference(t *testing.T) {
	pick := random(66)
	for range 2000 {
		a := specimen.DrawnType(pick, 3)
		b := altered(shape.Twin(a), pick)
		if formedOf(b) {
			checkCmp(t, a, b)
		}
	}
}

// altered is a type with one thing changed, which may not be well shaped any more.
func altered(a api.Type, pick specimen.Source) api.Type {
	switch i := pick(10); {
	case len(a.Arrays) > 0 && i < 3:
		a.Arrays[0].Item = altered(a.Arrays[0].Item, pick)
	case len(a.Objects) > 0 && i < 6:
		o := &a.Objects[pick(len(a.Objects))]
		if at := pick(len(o.Fields) + 1); at < len(o.Fields) {
			o.Fields[at] = altered(o.Fields[at], pick)
		} else {
			o.Rest = altered(o.Rest, pick)
		}
	case len(a.Arrays) > 0 && i == 6:
		a.Arrays[0].Max++
	case len(a.Objects) > 0 && i == 7 && len(a.Objects[0].Must) > 0:
		a.Objects[0].Must[0] = !a.Objects[0].Must[0]
	case len(a.Nums) > 0 && i == 8:
		a.Nums[0].High = ""
	case len(a.Texts) > 0:
		a.Texts[0] += "a"
	default:
		a.True = !a.True
	}
	return a
}

func TestP9_7Twin(t *testing.T) {
	for _, a := range slices.Concat(specimen.WellShapedTypes(random(7), 1000), specimen.WrongTypes()) {
		given := specimen.RoomyType(a)
		twin := shape.Twin(given)
		specimen.ScribbleType(twin)
		if !specimen.UntouchedType(given, a) {
			t.Errorf("what was written into Twin(%s) is in it too", short(a))
		}
		twin = shape.Twin(given)
		specimen.ScribbleType(given)
		if !specimen.AlikeTypes(twin, a) {
			t.Errorf("what was written into %s is in its twin too", short(a))
		}
	}
}

// No call panics, whatever is handed in.
func TestAnyTypes(t *testing.T) {
	all := append(specimen.MisshapenTypes(), specimen.WellShapedTypes(random(8), 20)...)
	for _, a := range all {
		x := specimen.RoomyType(a)
		for _, b := range all {
			y := specimen.RoomyType(b)
			shape.Cmp(x, y)
			shape.Same(x, y)
			if !specimen.UntouchedType(y, b) {
				t.Errorf("Cmp changed %v", b)
			}
		}
		if !specimen.UntouchedType(x, a) {
			t.Errorf("Cmp changed %v", a)
		}
	}
}
