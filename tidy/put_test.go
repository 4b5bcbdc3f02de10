package tidy_test

import (
	"math"
	"slices"
	"testing"

	"hallmark/api"
	"hallmark/shape"
	"hallmark/specimen"
	"hallmark/tidy"
)

// isCut holds Cut to what is written out, which is what the words say, and to the rules of memory.
func isCut(t *testing.T, a api.Type, height int, want api.Type) {
	t.Helper()
	given := specimen.RoomyType(a)
	got, e := tidy.Cut(given, height)
	if e != api.OK || !alike(got, want) || !alike(cutOf(a, height), want) {
		t.Errorf("Cut(%s, %d) = %s, %v, by the words %s, want %s", short(a), height, short(got), e, short(cutOf(a, height)), short(want))
	}
	if shape.Height(got) > height {
		t.Errorf("Cut(%s, %d) is %d high", short(a), height, shape.Height(got))
	}
	checkMemory(t, got, given, a)
}

func TestP11_2Examples(t *testing.T) {
	a := arrays(nest(null, 1), 1, 2)
	isCut(t, a, 1, arrays(every, 1, 2))
	isCut(t, a, 0, every)
	if got, e := tidy.Cut(a, -1); e != api.ErrRange || !isNever(got) {
		t.Errorf("%s, %v", short(got), e)
	}
}

// Heights below the type's, at it and above.
func TestP11_2Heights(t *testing.T) {
	flat := api.Type{Null: true, True: true, Nums: anyNumber.Nums, Texts: named(20)}
	for _, a := range []api.Type{never, every, null, anyText, flat, texts(named(17)...)} {
		for _, height := range []int{0, 1, 2, 8, math.MaxInt} {
			isCut(t, a, height, a)
		}
	}
	side := sumOf(flat, objects(objOf(arrays(never, 0, 0), []string{"a!", "b"}, nest(truth, 3), null), single("a!"), objOf(never, nil)))
	isCut(t, side, 0, every)
	isCut(t, side, 1, sumOf(flat, objects(objOf(every, []string{"a!", "b"}, every, null), single("a!"), objOf(never, nil))))
	isCut(t, side, 2, sumOf(flat, objects(objOf(arrays(never, 0, 0), []string{"a!", "b"}, nest(every, 1), null), single("a!"), objOf(never, nil))))
	isCut(t, side, 3, sumOf(flat, objects(objOf(arrays(never, 0, 0), []string{"a!", "b"}, nest(every, 2), null), single("a!"), objOf(never, nil))))
	for _, height := range []int{4, 5, 9, math.MaxInt} {
		isCut(t, side, height, side)
	}
	isCut(t, arrays(never, 0, 0), 0, every)
	isCut(t, arrays(never, 0, 0), 1, arrays(never, 0, 0))
	isCut(t, objects(objOf(never, nil)), 0, every)
	isCut(t, objects(objOf(never, nil)), 1, objects(objOf(never, nil)))
	isCut(t, laid, 1, laid) // it is put to no normal form
	untidy := objects(single("b!"), single("a!"), single("a"), objOf(nest(null, 1), []string{"a"}, nest(null, 1)))
	isCut(t, untidy, 1, objects(single("b!"), single("a!"), single("a"), objOf(every, []string{"a"}, every)))
	for high := range 12 {
		for height := range 14 {
			want := specimen.NestedType(null, high)
			if height < high {
				want = cutOf(want, height)
			}
			isCut(t, specimen.NestedType(null, high), height, want)
		}
	}
}

func TestP11_2Drawn(t *testing.T) {
	pick := random(4)
	for _, a := range specimen.WellShapedTypes(pick, 400) {
		for height := range 5 {
			isCut(t, a, height, cutOf(a, height))
		}
		isCut(t, a, shape.Height(a), a)
		isCut(t, a, math.MaxInt, a)
	}
	for range 100 {
		a := specimen.CrowdedType(pick, 3)
		height := pick(4)
		isCut(t, a, height, cutOf(a, height))
	}
}

// Refusals: what isn't well shaped is told ahead of a height that isn't one.
func TestP11_2Refused(t *testing.T) {
	below := []int{-1, -2, -100, math.MinInt}
	for _, a := range specimen.WellShapedTypes(random(5), 20) {
		for _, height := range below {
			if got, e := tidy.Cut(a, height); e != api.ErrRange || !isNever(got) {
				t.Errorf("Cut(%s, %d) = %s, %v", short(a), height, short(got), e)
			}
		}
	}
	for _, a := range specimen.WrongTypes() {
		given := specimen.RoomyType(a)
		for _, height := range append([]int{0, 1, 8, math.MaxInt}, below...) {
			if got, e := tidy.Cut(given, height); e != api.ErrShape || !isNever(got) {
				t.Errorf("Cut(%s, %d) = %s, %v", short(a), height, short(got), e)
			}
		}
		if !specimen.UntouchedType(given, a) {
			t.Errorf("%s was changed", short(a))
		}
	}
}

// isSum holds Sum to what is written out, which is what the words say, and to the rules of memory.
func isSum(t *testing.T, a, b, want api.Type) {
	t.Helper()
	x, y := specimen.RoomyType(a), specimen.RoomyType(b)
	got, e := tidy.Sum(x, y)
	if e != api.OK || !alike(got, want) || !alike(sumOf(a, b), want) {
		t.Errorf("Sum(%s, %s) = %s, %v, by the words %s, want %s", short(a), short(b), short(got), e, short(sumOf(a, b)), short(want))
	}
	if !specimen.OwnType(got, x, y) {
		t.Errorf("Sum(%s, %s): memory that isn't its own", short(a), short(b))
	}
	checkMemory(t, got, x, a)
	if !specimen.UntouchedType(y, b) {
		t.Errorf("%s was changed", short(b))
	}
}

// isSumBoth is likewise, the other way round too; no Objects are there, whose order would be another one.
func isSumBoth(t *testing.T, a, b, want api.Type) {
	t.Helper()
	isSum(t, a, b, want)
	isSum(t, b, a, want)
	if !isNever(a) && !isNever(b) {
		isSum(t, arrays(a, 1, 2), arrays(b, 0, 1), arrays(want, 0, 2))
		isSum(t, arrays(arrays(b, 0, -1), 0, 2), arrays(arrays(a, 1, 1), 0, 1), arrays(arrays(want, 0, -1), 0, 2))
	}
}

func TestP11_3Examples(t *testing.T) {
	isSumBoth(t, nums("1", "2"), nums("5", ""), nums("1", ""))
	isSumBoth(t, texts("b"), texts("a", "b"), texts("a", "b"))
	isSumBoth(t, arrays(null, 1, 2), arrays(never, 0, 0), arrays(null, 0, 2))
}

// Flags, every and never on either side.
func TestP11_3Flags(t *testing.T) {
	for i := range 8 {
		for k := range 8 {
			a, b := api.Type{Null: i&1 > 0, False: i&2 > 0, True: i&4 > 0}, api.Type{Null: k&1 > 0, False: k&2 > 0, True: k&4 > 0}
			isSumBoth(t, a, b, api.Type{Null: (i|k)&1 > 0, False: (i|k)&2 > 0, True: (i|k)&4 > 0})
		}
	}
	for _, a := range specimen.WellShapedTypes(random(6), 100) {
		isSum(t, a, every, every)
		isSum(t, every, a, every)
		isSum(t, a, never, a)
		isSum(t, never, a, a)
	}
	rest := laid
	rest.Null = false
	isSumBoth(t, null, rest, laid) // it isn't put to a normal form
	isSum(t, laid, laid, specimen.ByKinds(api.Type{Null: true, False: true, True: true, Nums: anyNumber.Nums, AnyText: true, Arrays: laid.Arrays, Objects: []api.Obj{objOf(every, nil), objOf(every, nil)}}))
}

// Spans on one side, on both and on none; bounds that aren't there, or are far greater than an int.
func TestP11_3Nums(t *testing.T) {
	const huge = "123456789012345678901234567890"
	for _, r := range [][3][2]string{
		{{"1", "2"}, {"1", "2"}, {"1", "2"}}, {{"1", "2"}, {"3", "4"}, {"1", "4"}}, {{"1", "9"}, {"3", "4"}, {"1", "9"}}, {{"1", "5"}, {"3", "9"}, {"1", "9"}}, {{"9", "10"}, {"100", "100"}, {"9", "100"}}, {{"-9", "-9"}, {"-10", "-10"}, {"-10", "-9"}}, {{"-1", "0"}, {"0", "1"}, {"-1", "1"}},
		{{"", "2"}, {"3", "4"}, {"", "4"}}, {{"1", ""}, {"3", "4"}, {"1", ""}}, {{"", ""}, {"3", "4"}, {"", ""}}, {{"", "2"}, {"3", ""}, {"", ""}}, {{"", "2"}, {"", "7"}, {"", "7"}}, {{"5", ""}, {"3", ""}, {"3", ""}}, {{"", ""}, {"", ""}, {"", ""}}, {{"5", ""}, {"", "-5"}, {"", ""}},
		{{huge, huge + "1"}, {huge + "0", huge + "2"}, {huge, huge + "2"}}, {{"-" + huge, "5"}, {"-" + huge + "0", huge}, {"-" + huge + "0", huge}}, {{"9223372036854775807", "9223372036854775807"}, {"9223372036854775808", "9223372036854775808"}, {"9223372036854775807", "9223372036854775808"}}, {{"-9223372036854775808", "0"}, {"-9223372036854775809", "0"}, {"-9223372036854775809", "0"}},
	} {
		isSumBoth(t, nums(r[0][0], r[0][1]), nums(r[1][0], r[1][1]), nums(r[2][0], r[2][1]))
	}
	isSumBoth(t, nums("1", "2"), null, api.Type{Null: true, Nums: nums("1", "2").Nums})
	isSumBoth(t, nums("", ""), anyText, api.Type{AnyText: true, Nums: anyNumber.Nums})
}

// Texts: any on either side, lists that have some in common, all or none, and many.
func TestP11_3Texts(t *testing.T) {
	isSumBoth(t, anyText, anyText, anyText)
	isSumBoth(t, anyText, texts("a", "b"), anyText)
	isSumBoth(t, anyText, null, api.Type{Null: true, AnyText: true})
	isSumBoth(t, texts("a"), null, api.Type{Null: true, Texts: []string{"a"}})
	isSumBoth(t, texts("a", "c", "e"), texts("b", "c", "d"), texts("a", "b", "c", "d", "e"))
	isSumBoth(t, texts("", "\uFFFF"), texts("~", "\U00010000"), texts("", "~", "\uFFFF", "\U00010000"))
	isSumBoth(t, texts(named(10)...), texts(named(30)[5:]...), texts(named(30)...)) // more than a normal form has
	isSumBoth(t, texts(named(5)...), texts(named(5)...), texts(named(5)...))
}

// Arrays whose Max is -1, 0 or greater, on one side and on both.
func TestP11_3Arrays(t *testing.T) {
	isSumBoth(t, arrays(never, 0, 0), arrays(never, 0, 0), arrays(never, 0, 0))
	isSumBoth(t, arrays(never, 0, 0), null, api.Type{Null: true, Arrays: arrays(never, 0, 0).Arrays})
	isSumBoth(t, arrays(null, 2, 5), truth, api.Type{True: true, Arrays: arrays(null, 2, 5).Arrays})
	isSumBoth(t, arrays(never, 0, 0), arrays(truth, 3, -1), arrays(truth, 0, -1))
	isSumBoth(t, arrays(null, 1, 1), arrays(truth, 7, 7), arrays(both, 1, 7))
	isSumBoth(t, arrays(null, 4, -1), arrays(truth, 2, 3), arrays(both, 2, -1))
	isSumBoth(t, arrays(null, 0, -1), arrays(null, 0, -1), arrays(null, 0, -1))
	isSumBoth(t, arrays(every, 1, 2), arrays(null, 1, 3), arrays(every, 1, 3))
	isSumBoth(t, arrays(null, math.MaxInt, math.MaxInt), arrays(truth, 1, math.MaxInt-1), arrays(both, 1, math.MaxInt))
	isSumBoth(t, nest(nums("1", "2"), 5), nest(nums("4", "5"), 5), nest(nums("1", "5"), 5))
	isSumBoth(t, nest(null, 5), nest(truth, 3), nest(sumOf(truth, nest(null, 2)), 3))
}

// Objects on one side and on both: the second's behind the first's, whatever they are.
func TestP11_3Objects(t *testing.T) {
	a, b, c := single("a!"), single("b"), objOf(null, []string{"b"}, null)
	isSum(t, objects(b, a), objects(c, a, a), objects(b, a, c, a, a))
	isSum(t, objects(c), objects(b, a), objects(c, b, a))
	isSum(t, objects(a), null, api.Type{Null: true, Objects: []api.Obj{a}})
	isSum(t, truth, objects(b, a), api.Type{True: true, Objects: []api.Obj{b, a}})
	isSum(t, objects(objOf(never, nil)), objects(objOf(never, nil)), objects(objOf(never, nil), objOf(never, nil)))
	isSum(t, arrays(objects(b), 1, 1), arrays(objects(a), 2, 2), arrays(objects(b, a), 1, 2))
}

func TestP11_3Drawn(t *testing.T) {
	pick := random(7)
	all := specimen.WellShapedTypes(pick, 15)
	for _, a := range all {
		for _, b := range all {
			isSum(t, a, b, sumOf(a, b))
		}
	}
	for range 300 {
		a, b := specimen.CrowdedType(pick, 2), specimen.CrowdedType(pick, 2)
		isSum(t, a, b, sumOf(a, b))
	}
}

func TestP11_3Refused(t *testing.T) {
	right := specimen.WellShapedTypes(random(8), 3)[40:]
	for i, a := range specimen.WrongTypes() {
		given := specimen.RoomyType(a)
		b := specimen.RoomyType(right[i%len(right)])
		for _, two := range [][2]api.Type{{given, b}, {b, given}, {given, given}, {given, every}, {every, given}} {
			if got, e := tidy.Sum(two[0], two[1]); e != api.ErrShape || !isNever(got) {
				t.Errorf("Sum(%s, %s) = %s, %v", short(two[0]), short(two[1]), short(got), e)
			}
		}
		if !specimen.UntouchedType(given, a) || !specimen.UntouchedType(b, right[i%len(right)]) {
			t.Errorf("%s was changed, or %s", short(a), short(b))
		}
	}
}

// isOne holds One to what is written out, which is what the words say, and to the rules of memory.
func isOne(t *testing.T, l []api.Obj, want api.Obj) {
	t.Helper()
	before := objects(l...)
	given := specimen.RoomyType(before)
	got, e := tidy.One(given.Objects)
	if e != api.OK || !alike(objects(got), objects(want)) || !alike(objects(oneOf(l)), objects(want)) {
		t.Errorf("One(%s) = %s, %v, by the words %s, want %s", short(before), short(objects(got)), e, short(objects(oneOf(l))), short(objects(want)))
	}
	checkMemory(t, objects(got), given, before)
}

func objs(l ...api.Obj) []api.Obj { return l }

func TestP11_4Examples(t *testing.T) {
	nay := api.Type{False: true}
	isOne(t, objs(objOf(never, []string{"a!"}, null), objOf(nay, []string{"b!"}, truth)), objOf(nay, []string{"a", "b"}, api.Type{Null: true, False: true}, truth))
	for _, none := range [][]api.Obj{nil, {}} {
		if got, e := tidy.One(none); e != api.ErrRange || !alike(objects(got), objects(api.Obj{})) {
			t.Errorf("%v, %v", got, e)
		}
	}
}

// One alone, several with the same names, with others, and with must on some and on all.
func TestP11_4Several(t *testing.T) {
	for _, o := range specimen.WellShapedTypes(random(9), 50) {
		for _, alone := range o.Objects {
			isOne(t, objs(alone), alone)
		}
	}
	one := func(name string, field, rest api.Type) api.Obj { return objOf(rest, []string{name}, field) }
	isOne(t, objs(one("a!", null, never), one("a!", truth, never)), one("a!", both, never))
	isOne(t, objs(one("a!", null, never), one("a", truth, never)), one("a", both, never))
	isOne(t, objs(one("a", null, never), one("a!", truth, never)), one("a", both, never))
	isOne(t, objs(one("a", null, never), one("a", truth, never)), one("a", both, never))
	isOne(t, objs(one("a!", null, never), objOf(never, nil)), one("a", null, never))
	isOne(t, objs(objOf(truth, nil), one("a!", null, never)), one("a", both, truth))
	isOne(t, objs(objOf(every, nil), one("a!", null, never)), one("a", every, every))
	isOne(t, objs(one("b!", null, truth), one("a!", null, never)), objOf(truth, []string{"a", "b"}, both, null))
	isOne(t, objs(objOf(never, []string{"a!", "b!"}, null, null), objOf(never, []string{"b!", "c!"}, truth, truth)), objOf(never, []string{"a", "b!", "c"}, null, both, truth))
	isOne(t, objs(one("a!", null, never), one("a!", truth, never), one("a!", anyText, null)), one("a!", api.Type{Null: true, True: true, AnyText: true}, null))
	isOne(t, objs(one("a!", null, never), one("a!", truth, never), one("b!", anyText, null)), objOf(null, []string{"a", "b"}, both, anyText))
	isOne(t, objs(one("a", never, never), one("a", never, never)), one("a", never, never))
	isOne(t, objs(one("a", null, null), one("a", null, null)), one("a", null, null)) // it isn't trimmed
	isOne(t, objs(wide(20, null, true, never), wide(30, truth, true, never)), oneOf(objs(wide(20, null, true, never), wide(30, truth, true, never))))
}

// The order counts where there are alternatives inside: from the first to the last.
func TestP11_4Order(t *testing.T) {
	in := func(name string) api.Type { return objects(single(name)) }
	l := objs(objOf(in("z"), []string{"k!"}, in("b")), objOf(in("y"), []string{"k!"}, in("a")), objOf(in("x"), nil), objOf(in("w"), []string{"k!"}, in("c")))
	want := objOf(objects(single("z"), single("y"), single("x"), single("w")), []string{"k"}, objects(single("b"), single("a"), single("x"), single("c")))
	isOne(t, l, want)
	slices.Reverse(l)
	isOne(t, l, objOf(objects(single("w"), single("x"), single("y"), single("z")), []string{"k"}, objects(single("c"), single("x"), single("a"), single("b"))))
}

func TestP11_4Drawn(t *testing.T) {
	pick := random(10)
	for i := range 1500 {
		var l []api.Obj
		for range 1 + pick(5) {
			if i%3 == 0 {
				l = append(l, specimen.CrowdedObj(pick, 1))
			} else {
				l = append(l, specimen.DrawnObj(pick, 1))
			}
		}
		isOne(t, l, oneOf(l))
	}
}

// Refusals: one of them alone isn't well shaped, at each place.
func TestP11_4Refused(t *testing.T) {
	right := objs(single("a!"), objOf(null, []string{"a", "b"}, truth, null), objOf(every, nil))
	tried := 0
	for _, a := range specimen.WrongTypes() {
		for _, wrong := range a.Objects {
			if shape.Formed(objects(wrong)) {
				continue
			}
			tried++
			for at := range 4 {
				before := objects(slices.Insert(slices.Clone(right), at, wrong)...)
				given := specimen.RoomyType(before)
				if got, e := tidy.One(given.Objects); e != api.ErrShape || !alike(objects(got), objects(api.Obj{})) {
					t.Errorf("One(%s) = %v, %v", short(before), got, e)
				}
				if !specimen.UntouchedType(given, before) {
					t.Errorf("%s was changed", short(before))
				}
			}
			if _, e := tidy.One(objs(wrong)); e != api.ErrShape {
				t.Errorf("One(%s): %v", short(objects(wrong)), e)
			}
		}
	}
	if tried < 500 {
		t.Errorf("%d were tried", tried)
	}
}
