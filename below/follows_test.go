package below_test

import (
	"fmt"
	"math"
	"slices"
	"strings"
	"testing"

	"hallmark/api"
	"hallmark/below"
	"hallmark/specimen"
)

// near is a type that is drawn, and two that it becomes when a few things are changed; those at these places have one alternative at most in each part.
func near(pick specimen.Source, single ...int) [3]api.Type {
	var out [3]api.Type
	out[0] = specimen.DrawnType(pick, 3)
	for i := range out {
		if i > 0 {
			out[i] = out[i-1]
			for range pick(3) {
				out[i] = specimen.NudgedType(out[i], pick)
			}
		}
		if slices.Contains(single, i) {
			out[i] = specimen.Single(out[i])
		}
	}
	return out
}

// Where a type lies below another one each of its values is of it.
func TestP12_4Values(t *testing.T) {
	t.Parallel()
	pick := random(4)
	lay := 0
	for range 500 {
		row := near(pick)
		for _, two := range [][2]api.Type{{row[0], row[1]}, {row[1], row[0]}, {row[0], row[2]}} {
			if below.Below(two[0], two[1]) && !specimen.AlikeTypes(two[0], two[1]) {
				lay++
				hasAll(t, two[0], two[1], pick)
			}
		}
	}
	if lay < 150 {
		t.Errorf("%d lay below", lay)
	}
}

// hasAll: values of a type, drawn, are of another one.
func hasAll(t *testing.T, a, b api.Type, pick specimen.Source) {
	t.Helper()
	for _, v := range specimen.Strays(a, b) {
		if !specimen.In(v, b) {
			t.Errorf("Below(%s, %s), but %s isn't of it", short(a), short(b), short(v))
		}
	}
	for range 5 {
		if v, ok := specimen.DrawnOf(a, pick, specimen.Kinds()...); ok && !specimen.In(v, b) {
			t.Errorf("Below(%s, %s), but %s isn't of it", short(a), short(b), short(v))
		}
	}
}

// Where the other one has one alternative at most in each part, a type that isn't below it has a value that isn't of it.
func TestP12_4Exact(t *testing.T) {
	t.Parallel()
	pick := random(5)
	var told [2]int
	for range 2000 {
		row := near(pick, 1, 2)
		for _, two := range [][2]api.Type{{row[0], row[1]}, {row[1], row[2]}, {row[2], row[1]}} {
			checkExact(t, two[0], two[1])
			told[number(below.Below(two[0], two[1]))]++
		}
	}
	if min(told[0], told[1]) < 800 {
		t.Errorf("how often one lay below: %v", told)
	}
	all := specimen.WellShapedTypes(pick, 30)
	for _, a := range all {
		for _, b := range all {
			checkExact(t, a, specimen.Single(b))
		}
	}
}

func checkExact(t *testing.T, a, b api.Type) {
	t.Helper()
	if got := below.Below(a, b); got != allIn(a, b) {
		t.Errorf("Below(%s, %s) = %v", short(a), short(b), got)
	}
}

// A type lies below itself, and is apart from itself just if it is never.
func TestP12_4Itself(t *testing.T) {
	all := specimen.WellShapedTypes(random(6), 2000)
	for _, a := range all {
		for _, b := range append(rooms(a), a) {
			if !below.Below(b, b) || below.Apart(b, b) != specimen.IsNever(b) {
				t.Errorf("%s and itself: %v, %v", short(b), below.Below(b, b), below.Apart(b, b))
			}
		}
	}
}

// What lies below what lies below a third one lies below that, if the second and the third have one alternative at most in each part.
func TestP12_4Three(t *testing.T) {
	t.Parallel()
	pick := random(7)
	steps := 0
	for range 10000 {
		row := near(pick, 1, 2)
		for _, o := range [][3]int{{0, 1, 2}, {2, 1, 0}, {1, 2, 0}, {0, 2, 1}} {
			a, b, c := row[o[0]], row[o[1]], specimen.Single(row[o[2]])
			if !below.Below(a, b) || !below.Below(b, c) {
				continue
			}
			if !below.Below(a, c) {
				t.Errorf("%s, %s, %s", short(a), short(b), short(c))
			}
			if !specimen.AlikeTypes(a, b) && !specimen.AlikeTypes(b, c) && !specimen.IsNever(a) && !c.All {
				steps++
			}
		}
	}
	if steps < 300 {
		t.Errorf("%d rows of three", steps)
	}
}

// What lies below something that is apart from a third one is apart from that too.
func TestP12_4Apart(t *testing.T) {
	t.Parallel()
	pick := random(8)
	rows := 0
	for range 10000 {
		row := near(pick)
		c := specimen.DrawnType(pick, 2)
		for _, third := range []api.Type{c, specimen.NudgedType(c, pick), row[2], inner(c)} {
			for _, two := range [][2]api.Type{{row[0], row[1]}, {row[1], row[0]}, {inner(row[0]), inner(row[1])}} {
				if !below.Below(two[0], two[1]) || !below.Apart(two[1], third) {
					continue
				}
				if !below.Apart(two[0], third) {
					t.Errorf("%s, %s, %s", short(two[0]), short(two[1]), short(third))
				}
				if !specimen.IsNever(two[0]) && !specimen.IsNever(third) && len(two[0].Arrays)+len(two[0].Objects) > 0 && len(third.Arrays)+len(third.Objects) > 0 {
					rows++
				}
			}
		}
	}
	if rows < 300 {
		t.Errorf("%d rows of three", rows)
	}
}

// inner is a type without what two types often have in common: its arrays aren't empty, its objects neither.
func inner(a api.Type) api.Type {
	if a.All {
		return a
	}
	out := api.Type{Arrays: slices.Clone(a.Arrays)}
	for i, arr := range out.Arrays {
		if arr.Max != 0 {
			out.Arrays[i].Min = max(arr.Min, 1)
		}
	}
	for _, o := range a.Objects {
		if slices.Contains(o.Must, true) {
			out.Objects = append(out.Objects, o)
		}
	}
	return out
}

// Types that aren't well shaped, on either side and on both: an answer, and nothing changed.
func TestMisshapen(t *testing.T) {
	right := slices.Concat(specimen.WellShapedTypes(random(9), 10), specimen.AroundType(null))
	wrong := specimen.WrongTypes()
	for i, a := range wrong {
		given, before := specimen.RoomyType(a), a
		for _, b := range right {
			answers(given, b)
		}
		for k := i % 97; k < len(wrong); k += 97 {
			answers(given, wrong[k])
		}
		answers(given, given)
		if !specimen.UntouchedType(given, before) {
			t.Errorf("%s was changed", short(a))
		}
	}
	for _, a := range specimen.MisshapenTypes() {
		for _, b := range specimen.MisshapenTypes() {
			answers(a, b)
		}
	}
}

// answers are all that is asked of two types.
func answers(a, b api.Type) [4]bool {
	return [...]bool{below.Below(a, b), below.Below(b, a), below.Apart(a, b), below.Apart(b, a)}
}

// Spans whose bounds are no numbers.
func TestMisshapenSpans(t *testing.T) {
	bounds := []string{"", "0", "5", "-5", "x", "-", "+1", "-0", "05", "1.5", "1e3", " 1", "1 ", "\xff", "\x00", "٣", strings.Repeat("9", 5000), strings.Repeat("x", 5000)}
	for a := range spans(bounds) {
		for b := range spans(bounds[:12]) {
			if below.Span(a, b) != below.Span(a, b) || below.Span(b, a) != below.Span(b, a) {
				t.Errorf("%v, %v", a, b)
			}
		}
	}
}

// A list that is nil and one that is empty are no different.
func TestEmptyLists(t *testing.T) {
	full := specimen.EmptyListed
	empty := api.Obj{Names: []string{}, Fields: []api.Type{}, Must: []bool{}, Rest: full(never)}
	all := []api.Type{never, every, null, anyNumber, anyText, texts("a"), arrays(full(never), 0, 0), arrays(never, 0, 0), arrays(full(null), 0, -1), objects(empty), objects(empty, empty), objects(api.Obj{})}
	for _, a := range all {
		for _, b := range all {
			want := answers(a, b)
			if answers(full(a), b) != want || answers(a, full(b)) != want || answers(full(a), full(b)) != want {
				t.Errorf("%s, %s: %v", short(a), short(b), want)
			}
		}
	}
}

// The same calls at once, of the same things.
func TestSameness(t *testing.T) {
	all := specimen.WellShapedTypes(random(10), 30)
	told := func() string {
		var out []byte
		for _, a := range all {
			for _, b := range all {
				out = fmt.Append(out, answers(a, b))
			}
		}
		return string(out)
	}
	if !specimen.AtOnce(told) {
		t.Error("another answer")
	}
}

const deepest = 1<<16 - 2

// inside is a type within so many others: arrays of one item, fields that must be there, and fields that the rest is for, as asked.
func inside(a api.Type, deep int, rest bool) api.Type {
	for i := range deep {
		switch {
		case i%2 == 0:
			a = arrays(a, 1, 1)
		case rest:
			a = objects(objOf(a, nil))
		default:
			a = objects(objOf(never, []string{"a!"}, a))
		}
	}
	return a
}

// Types as deep as they may be.
func TestDeep(t *testing.T) {
	both := api.Type{Null: true, True: true}
	for _, c := range []struct {
		a, b  api.Type
		lie   bool
		apart bool
	}{
		{null, both, true, false}, {both, null, false, false}, {null, truth, false, true}, {every, laid, true, false}, {arrays(never, 0, 0), arrays(null, 0, 1), true, false}, {objects(objOf(never, nil)), objects(objOf(null, nil)), true, false}, {anyText, texts("a"), false, false},
	} {
		x, y := inside(c.a, deepest-2, false), inside(c.b, deepest-2, false)
		if below.Below(x, y) != c.lie || below.Apart(x, y) != c.apart || below.Apart(y, x) != c.apart {
			t.Errorf("deep inside: %s, %s", short(c.a), short(c.b))
		}
		y = inside(c.b, deepest-2, true)
		if below.Below(x, y) != c.lie || below.Apart(x, y) != c.apart || below.Apart(y, x) != c.apart || below.Below(y, x) {
			t.Errorf("deep inside, by the rest: %s, %s", short(c.a), short(c.b))
		}
		if !below.Below(x, every) || below.Below(every, x) || below.Apart(every, x) {
			t.Errorf("deep inside, and every: %s", short(c.a))
		}
	}
	open := every
	for range deepest / 2 {
		open = api.Type{Null: true, False: true, True: true, Nums: laid.Nums, AnyText: true, Arrays: []api.Arr{{Item: open, Max: -1}}, Objects: laid.Objects}
	}
	if !below.Below(every, open) || !below.Below(open, every) || !below.Below(open, open) {
		t.Error("every, laid out deep down")
	}
	answers(specimen.NestedType(nums("5", "4"), deepest), specimen.NestedType(api.Type{Nums: make([]api.Span, 3)}, deepest))
}

// Alternatives within alternatives: what lies deep isn't looked at again and again.
func TestDeepAlternatives(t *testing.T) {
	const levels = 1 << 14
	a, b, c := null, api.Type{Null: true, True: true}, truth
	other := objOf(never, []string{"b!"}, null)
	for range levels {
		a, b, c = objects(other, objOf(never, []string{"a!"}, a), other), objects(objOf(never, []string{"a"}, b), other), objects(objOf(never, []string{"a!"}, c), objOf(never, []string{"c!"}, null))
	}
	if answers(a, b) != [...]bool{true, false, false, false} || answers(a, c) != [...]bool{false, false, true, true} || answers(c, b) != [...]bool{false, false, false, false} {
		t.Errorf("%v, %v, %v", answers(a, b), answers(a, c), answers(c, b))
	}
}

// Long lists: none is gone through again for each element of another one.
func TestLong(t *testing.T) {
	const many = 1 << 17
	var names []string
	for i := range many {
		names = append(names, fmt.Sprintf("%07d", i))
	}
	odd, even := []string{}, []string{}
	for i := 0; i < many; i += 2 {
		even, odd = append(even, names[i]), append(odd, names[i+1])
	}
	of := func(names []string, field api.Type, must bool, rest api.Type) api.Type {
		return objects(api.Obj{Names: names, Fields: slices.Repeat([]api.Type{field}, len(names)), Must: slices.Repeat([]bool{must}, len(names)), Rest: rest})
	}
	last := of(names, null, true, never)
	last.Objects[0].Fields[many-1] = truth
	both := api.Type{Null: true, True: true}
	digits := strings.Repeat("9", 1<<20)
	for i, c := range []struct {
		a, b api.Type
		want [4]bool
	}{
		{texts(names...), texts(names...), [...]bool{true, true, false, false}}, {texts(even...), texts(names...), [...]bool{true, false, false, false}}, {texts(even...), texts(odd...), [...]bool{false, false, true, true}}, {texts(names[:many-1]...), texts(names[1:]...), [...]bool{false, false, false, false}}, {texts(names...), anyText, [...]bool{true, false, false, false}},
		{of(names, null, true, never), of(names, both, false, never), [...]bool{true, false, false, false}}, {of(names, null, true, never), last, [...]bool{false, false, true, true}}, {last, of(names, both, true, never), [...]bool{true, false, false, false}}, {of(names, null, true, never), of(nil, null, false, null), [...]bool{true, false, false, false}}, {last, of(nil, null, false, null), [...]bool{false, false, true, true}}, {of(even, null, false, never), of(odd, null, false, never), [...]bool{false, false, false, false}}, {of(even, null, false, null), of(odd, null, false, null), [...]bool{true, true, false, false}}, {of(even, null, true, never), of(odd, null, false, never), [...]bool{false, false, true, true}},
		{nums(digits, ""), nums(digits[1:], ""), [...]bool{true, false, false, false}}, {nums("", "-"+digits), nums("-"+digits[1:], ""), [...]bool{false, false, true, true}}, {arrays(null, 0, math.MaxInt), arrays(null, 0, -1), [...]bool{true, false, false, false}},
	} {
		if got := answers(c.a, c.b); got != c.want {
			t.Errorf("%d: %v, want %v", i, got, c.want)
		}
	}
}

// Many alternatives on both sides.
func TestManyAlternatives(t *testing.T) {
	const many = 600
	var a, b, c api.Type
	for i := range many {
		name := fmt.Sprintf("%04d", i)
		a.Objects = append(a.Objects, objOf(never, []string{name + "!"}, null))
		b.Objects = append(b.Objects, objOf(never, []string{name}, api.Type{Null: true, True: true}))
		c.Objects = append(c.Objects, objOf(never, []string{name + "!"}, truth))
	}
	slices.Reverse(b.Objects)
	if answers(a, b) != [...]bool{true, false, false, false} || answers(a, c) != [...]bool{false, false, true, true} || answers(b, c) != [...]bool{false, true, false, false} {
		t.Errorf("%v, %v, %v", answers(a, b), answers(a, c), answers(b, c))
	}
}

// FuzzAny holds all calls to the words, on types that are drawn by the bytes.
func FuzzAny(f *testing.F) {
	for _, s := range []string{"", "\x01\x00\x01\x02\x00\x03\x04\x01\x02\x01\x02\x00\x02\x01\x01\x01\x02", "\x02\x01\x01\x01\x01\x01\x00\x01\x00\x02\x07\x05\x04\x03\x02\x01\x06\x05\x04\x03\x02\x01"} {
		f.Add([]byte(s))
	}
	f.Fuzz(func(t *testing.T, data []byte) {
		pick := specimen.Picks(data)
		a := specimen.DrawnType(pick, 3)
		b := specimen.NudgedType(a, pick)
		c := specimen.NudgedType(specimen.DrawnType(pick, 2), pick)
		for _, two := range [][2]api.Type{{a, b}, {b, c}, {a, c}} {
			check(t, two[0], two[1])
			checkExact(t, two[0], specimen.Single(two[1]))
			answers(two[0], specimen.SpoiltType(two[1], pick))
		}
	})
}
