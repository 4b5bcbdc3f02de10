package lattice_test

import (
	"fmt"
	"math"
	"strings"
	"testing"

	"hallmark/api"
	"hallmark/lattice"
	"hallmark/shape"
	"hallmark/specimen"
)

// isOnly holds Only to what is written out, which is what the words say, and to the rules of memory.
func isOnly(t *testing.T, a api.Type, kinds uint8, want api.Type) {
	t.Helper()
	if words := norm(leftOf(a, kinds)); !alike(words, want) {
		t.Errorf("Only(%s, %b): by the words %s, want %s", short(a), kinds, short(words), short(want))
	}
	given := specimen.RoomyType(a)
	got, e := lattice.Only(given, kinds)
	if e != api.OK || !alike(got, want) {
		t.Errorf("Only(%s, %b) = %s, %v, want %s", short(a), kinds, short(got), e, short(want))
	}
	sound(t, got, given)
	if !specimen.UntouchedType(given, a) {
		t.Errorf("%s was changed", short(a))
	}
}

// onlyWords holds Only to the words.
func onlyWords(t *testing.T, a api.Type, kinds uint8) {
	t.Helper()
	isOnly(t, a, kinds, norm(leftOf(a, kinds)))
}

func TestP13_3Examples(t *testing.T) {
	isOnly(t, every, 1<<api.Number|1<<api.Null, with(anyNumber, null))
	isOnly(t, with(nums("1", "3"), texts("a")), 1<<api.Text, texts("a"))
}

// byKind is a type, by its parts of each kind.
func byKind() [7]api.Type {
	return [...]api.Type{null, {False: true}, truth, nums("1", huge), texts("a", "b"), arrays(nums("3", ""), 1, 4), objects(single("a!"), single("b!"))}
}

// Each row of kinds, bits beyond the seven kinds among them, of every, of never, of a type of all kinds and of each kind alone.
func TestP13_3Rows(t *testing.T) {
	parts := byKind()
	full := with(parts[:]...)
	for row := range 256 {
		kinds := uint8(row)
		isOnly(t, every, kinds, shape.OfKinds(kinds))
		isOnly(t, laid, kinds, shape.OfKinds(kinds))
		isOnly(t, never, kinds, never)
		var left []api.Type
		for kind, part := range parts {
			alone := never
			if kinds>>kind&1 == 1 {
				alone = part
				left = append(left, part)
			}
			isOnly(t, part, kinds, alone)
		}
		isOnly(t, full, kinds, with(left...))
	}
}

// What is left is put to its normal form, and all of it stays: any text and texts, several alternatives, what lies inside.
func TestP13_3Normal(t *testing.T) {
	rest := with(null, anyNumber)
	for _, r := range []struct {
		a     api.Type
		kinds uint8
		want  api.Type
	}{
		{with(rest, anyText), 1 << api.Text, anyText}, {with(rest, texts(named(17)...)), 1 << api.Text, anyText}, {with(rest, texts(named(17)...)), 1<<api.Null | 1<<api.True, null}, {with(rest, nest(null, 9)), 1 << api.Array, nest(every, 8)}, {with(rest, objects(single("b!"), single("a!"), single("a"))), 1 << api.Object, objects(single("a"), single("b!"))}, {with(rest, objects(objOf(null, []string{"a"}, null))), 1<<api.Object | 128, objects(objOf(null, nil))},
		{arrays(laid, 0, -1), 1 << api.Array, anyArray}, {objects(objOf(laid, nil)), 1 << api.Object, anyObject}, {arrays(with(null, truth), 0, 2), 1<<api.Array | 1<<api.Null, arrays(both, 0, 2)}, {with(texts("a"), nums("", "4")), 1<<api.Null | 1<<api.Array, never},
	} {
		isOnly(t, r.a, r.kinds, r.want)
	}
	for _, a := range all() {
		isOnly(t, a, 127, norm(a))
		isOnly(t, a, 255, norm(a))
		isOnly(t, a, 0, never)
		isOnly(t, a, 128, never)
		isOnly(t, a, shape.Kinds(a), norm(a))
		isOnly(t, a, ^shape.Kinds(a), never)
	}
}

func TestP13_3Drawn(t *testing.T) {
	t.Parallel()
	pick := random(4)
	for _, a := range specimen.WellShapedTypes(pick, 200) {
		for range 8 {
			onlyWords(t, a, uint8(pick(256)))
		}
	}
	for range 60 {
		onlyWords(t, specimen.CrowdedType(pick, 3), uint8(pick(256)))
	}
}

// isMinus holds Minus to what is written out, which is what the words say, and to the rules of memory.
func isMinus(t *testing.T, a api.Type, v api.Value, want api.Type) {
	t.Helper()
	told := fmt.Sprintf("Minus(%s, %.100s)", short(a), fmt.Sprint(v))
	if words := norm(withoutOf(a, v)); !alike(words, want) {
		t.Errorf("%s: by the words %s, want %s", told, short(words), short(want))
	}
	given, value := specimen.RoomyType(a), specimen.Roomy(v)
	got, e := lattice.Minus(given, value)
	if e != api.OK || !alike(got, want) {
		t.Errorf("%s = %s, %v, want %s", told, short(got), e, short(want))
	}
	if !specimen.PlacesOfTypes(got).Apart(specimen.PlacesOf(value)) {
		t.Errorf("%s shares memory with the value", told)
	}
	sound(t, got, given)
	if !specimen.UntouchedType(given, a) || !specimen.Untouched(value, v) {
		t.Errorf("%s: what was handed in was changed", told)
	}
}

// minusWords holds Minus to the words.
func minusWords(t *testing.T, a api.Type, v api.Value) {
	t.Helper()
	isMinus(t, a, v, norm(withoutOf(a, v)))
}

// isMinusBeside holds it to an answer with and without parts of other kinds, which stay.
func isMinusBeside(t *testing.T, a api.Type, v api.Value, want api.Type) {
	t.Helper()
	isMinus(t, a, v, want)
	parts := byKind()
	for row := range 128 {
		if row>>v.Kind&1 == 1 || row%5 != 0 && row != 127-1<<v.Kind {
			continue
		}
		x, y := a, want
		for kind, part := range parts {
			if row>>kind&1 == 1 && shape.Kinds(a)>>kind&1 == 0 {
				x, y = with(x, part), with(y, part)
			}
		}
		isMinus(t, x, v, y)
	}
}

func TestP13_4Examples(t *testing.T) {
	isMinus(t, nums("1", "3"), specimen.Num("1"), nums("2", "3"))
	isMinus(t, nums("1", "3"), specimen.Num("2"), nums("1", "3"))
	isMinus(t, with(nums("1", "1"), null), specimen.Num("1"), null)
	isMinus(t, every, api.Value{}, shape.OfKinds(126))
	isMinus(t, arrays(truth, 0, -1), specimen.List(), arrays(truth, 1, -1))
	isMinus(t, texts("a", "b"), specimen.Text("b"), texts("a"))
}

// Null, false and true: from every, from every laid out, from those that have them and from those that don't.
func TestP13_4Flags(t *testing.T) {
	for kind := api.Null; kind <= api.True; kind++ {
		v := specimen.Kind(kind)
		others := shape.OfKinds(127 - 1<<kind)
		isMinus(t, every, v, others)
		isMinus(t, laid, v, others)
		isMinus(t, others, v, others)
		isMinus(t, never, v, never)
		for i := range 8 {
			flags := func(i int) api.Type { return api.Type{Null: i&1 > 0, False: i&2 > 0, True: i&4 > 0} }
			isMinusBeside(t, flags(i), v, flags(i&^(1<<kind)))
		}
		for _, a := range []api.Type{arrays(byKind()[kind], 0, -1), objects(of("a!", byKind()[kind], every)), arrays(every, 1, 2)} { // what lies inside stays
			isMinus(t, a, v, a)
		}
	}
}

// Numbers at Low, at High, at both, between and outside, with bounds missing and far greater than an int.
func TestP13_4Numbers(t *testing.T) {
	none := [2]string{"none", ""}
	for _, r := range []struct {
		low, high, n string
		want         [2]string
	}{
		{"1", "3", "1", [2]string{"2", "3"}}, {"1", "3", "3", [2]string{"1", "2"}}, {"1", "3", "2", [2]string{"1", "3"}}, {"1", "3", "0", [2]string{"1", "3"}}, {"1", "3", "4", [2]string{"1", "3"}}, {"1", "2", "1", [2]string{"2", "2"}}, {"1", "2", "2", [2]string{"1", "1"}}, {"5", "5", "5", none}, {"5", "5", "4", [2]string{"5", "5"}}, {"5", "5", "6", [2]string{"5", "5"}}, {"5", "5", "-5", [2]string{"5", "5"}},
		{"", "3", "3", [2]string{"", "2"}}, {"", "3", "2", [2]string{"", "3"}}, {"", "3", "4", [2]string{"", "3"}}, {"3", "", "3", [2]string{"4", ""}}, {"3", "", "4", [2]string{"3", ""}}, {"3", "", "2", [2]string{"3", ""}}, {"", "", "0", [2]string{"", ""}}, {"", "", huge, [2]string{"", ""}}, {"0", "0", "0", none}, {"-1", "0", "-1", [2]string{"0", "0"}}, {"0", "1", "0", [2]string{"1", "1"}}, {"-1", "1", "1", [2]string{"-1", "0"}}, {"-1", "1", "0", [2]string{"-1", "1"}}, {"-5", "9", "-5", [2]string{"-4", "9"}}, {"-10", "-9", "-9", [2]string{"-10", "-10"}}, {"-10", "-9", "-10", [2]string{"-9", "-9"}},
		{"9", "99", "9", [2]string{"10", "99"}}, {"9", "100", "100", [2]string{"9", "99"}}, {"99", "", "99", [2]string{"100", ""}}, {"", "-99", "-99", [2]string{"", "-100"}}, {"-100", "", "-100", [2]string{"-99", ""}}, {huge, huge, huge, none}, {huge, "", huge, [2]string{"123456789012345678901234567891", ""}}, {"", huge, huge, [2]string{"", "123456789012345678901234567889"}}, {"-" + huge, "0", "-" + huge, [2]string{"-123456789012345678901234567889", "0"}}, {"0", huge, huge, [2]string{"0", "123456789012345678901234567889"}}, {"0", huge, huge + "0", [2]string{"0", huge}},
		{"9223372036854775807", "", "9223372036854775807", [2]string{"9223372036854775808", ""}}, {"", "-9223372036854775808", "-9223372036854775808", [2]string{"", "-9223372036854775809"}}, {strings.Repeat("9", 100), "", strings.Repeat("9", 100), [2]string{"1" + strings.Repeat("0", 100), ""}},
	} {
		want := nums(r.want[0], r.want[1])
		if r.want == none {
			want = never
		}
		isMinusBeside(t, nums(r.low, r.high), specimen.Num(r.n), want)
	}
	for _, a := range []api.Type{never, every, null, texts("1"), arrays(nums("1", "1"), 1, 1), objects(of("1!", nums("1", "1"), nums("1", "1")))} {
		isMinus(t, a, specimen.Num("1"), a)
	}
}

// Texts that are named, that are not, and where all are.
func TestP13_4Texts(t *testing.T) {
	for _, r := range []struct {
		a    api.Type
		text string
		want api.Type
	}{
		{texts("a", "b", "c"), "a", texts("b", "c")}, {texts("a", "b", "c"), "b", texts("a", "c")}, {texts("a", "b", "c"), "c", texts("a", "b")}, {texts("a"), "a", never}, {texts(""), "", never}, {texts("", "a"), "", texts("a")}, {texts("a", "b"), "", texts("a", "b")}, {texts("a", "b"), "ab", texts("a", "b")}, {texts("b"), "a", texts("b")}, {texts("b"), "c", texts("b")}, {anyText, "a", anyText}, {anyText, "", anyText}, {texts("\uFFFF", "\U00010000"), "\U00010000", texts("\uFFFF")},
		{texts(named(17)...), "00003", texts(append(named(3), named(17)[4:]...)...)}, {texts(named(17)...), "x", anyText}, {texts(named(18)...), "00003", anyText}, {never, "a", never},
	} {
		isMinusBeside(t, r.a, specimen.Text(r.text), r.want)
	}
	for _, a := range []api.Type{every, null, arrays(texts("a"), 0, -1), objects(of("a!", texts("a"), texts("a")))} {
		isMinus(t, a, specimen.Text("a"), a)
	}
}

// The array without items, with each Min and Max; other arrays, and objects, are left where they are.
func TestP13_4Arrays(t *testing.T) {
	one, object := specimen.List(api.Value{}), specimen.Object([]string{"a"}, api.Value{})
	empty, fewest := specimen.List(), specimen.Object(nil)
	for _, r := range [][2]api.Type{
		{arrays(never, 0, 0), never}, {arrays(null, 0, -1), arrays(null, 1, -1)}, {arrays(null, 0, 1), arrays(null, 1, 1)}, {arrays(null, 0, 9), arrays(null, 1, 9)}, {arrays(null, 0, math.MaxInt), arrays(null, 1, math.MaxInt)}, {anyArray, arrays(every, 1, -1)}, {arrays(null, 1, -1), arrays(null, 1, -1)}, {arrays(null, 1, 1), arrays(null, 1, 1)}, {arrays(null, 2, -1), arrays(null, 2, -1)}, {arrays(null, 2, 5), arrays(null, 2, 5)}, {nest(null, 2), arrays(nest(null, 1), 1, -1)}, {arrays(arrays(never, 0, 0), 1, 1), arrays(arrays(never, 0, 0), 1, 1)},
	} {
		isMinusBeside(t, r[0], empty, r[1])
		isMinusBeside(t, r[0], api.Value{Kind: api.Array, Items: []api.Value{}, Keys: []string{}}, r[1])
		isMinusBeside(t, r[0], one, r[0])
		isMinusBeside(t, r[0], specimen.List(empty), r[0])
		isMinusBeside(t, r[0], object, r[0])
	}
	isMinus(t, nest(null, 9), empty, arrays(nest(every, 7), 1, -1))
	for _, a := range []api.Type{never, every, null, anyObject, objects(objOf(never, nil)), objects(single("a!")), objects(single("a")), with(anyNumber, anyText), objects(of("a", arrays(never, 0, 0), anyArray))} {
		for _, v := range []api.Value{empty, one, object, fewest} {
			isMinus(t, a, v, a)
		}
	}
	isMinus(t, laid, empty, with(shape.OfKinds(127-1<<api.Array), arrays(every, 1, -1)))
	isMinus(t, laid, one, every)
	isMinus(t, laid, fewest, every)
}

func TestP13_4Drawn(t *testing.T) {
	t.Parallel()
	pick := random(5)
	values := specimen.WellShaped(pick, 40)
	for i, a := range specimen.WellShapedTypes(pick, 100) {
		for k := i % 4; k < len(values); k += 4 {
			minusWords(t, a, values[k])
		}
		for range 5 {
			if v, ok := specimen.DrawnOf(a, pick, specimen.Kinds()...); ok {
				minusWords(t, a, v)
			}
		}
	}
	for range 60 {
		a := specimen.CrowdedType(pick, 3)
		if v, ok := specimen.DrawnOf(a, pick, specimen.Kinds()...); ok {
			minusWords(t, a, v)
		}
	}
}
