package lattice_test

import (
	"fmt"
	"slices"
	"strings"
	"testing"

	"hallmark/api"
	"hallmark/lattice"
	"hallmark/shape"
	"hallmark/specimen"
)

// has: values of a type, drawn and looked for, are of another one.
func has(t *testing.T, call string, a, b api.Type, pick specimen.Source) {
	t.Helper()
	if v, found := specimen.FoundStray(a, b, pick); found {
		t.Errorf("%s: %.300s is of %s, not of %s", call, fmt.Sprint(v), short(a), short(b))
	}
}

// valuesOf are values of a type: drawn ones, and such as might not be of some others.
func valuesOf(a api.Type, pick specimen.Source, others ...api.Type) []api.Value {
	var out []api.Value
	for range 8 {
		if v, ok := specimen.DrawnOf(a, pick, specimen.Kinds()...); ok {
			out = append(out, v)
		}
	}
	for _, b := range others {
		if specimen.PartsOf(a)*specimen.PartsOf(b) < 1000 { // in large types the search takes long
			out = append(out, specimen.Strays(a, b)...)
		}
	}
	return out
}

// answer is what a call answers that doesn't refuse.
func answer(t *testing.T, got api.Type, e api.Errno) api.Type {
	t.Helper()
	if e != api.OK {
		t.Fatalf("refused: %v", e)
	}
	return got
}

// joined holds Join and Widen to what follows.
func joined(t *testing.T, a, b api.Type, pick specimen.Source) {
	t.Helper()
	told := fmt.Sprintf("%s and %s", short(a), short(b))
	x, e := lattice.Join(a, b)
	answer(t, x, e)
	y, e := lattice.Widen(a, b)
	answer(t, y, e)
	for _, one := range []api.Type{a, b} {
		has(t, "Join of "+told, one, x, pick)
		has(t, "Widen of "+told, one, y, pick)
	}
	has(t, "Widen has not what Join has: "+told, x, y, pick)
}

// met holds Meet to what follows; it says whether something was found that is of both.
func met(t *testing.T, a, b api.Type, pick specimen.Source) bool {
	t.Helper()
	m, e := lattice.Meet(a, b)
	answer(t, m, e)
	found := false
	of := func(v api.Value) {
		found = true
		if !specimen.In(v, m) {
			t.Errorf("Meet(%s, %s) = %s hasn't %.300s", short(a), short(b), short(m), fmt.Sprint(v))
		}
	}
	for _, v := range slices.Concat(valuesOf(a, pick, b, m), valuesOf(b, pick, a, m)) {
		if specimen.In(v, a) && specimen.In(v, b) {
			of(v)
		}
	}
	if v, ok := specimen.CommonOf(a, b); ok {
		of(v)
	}
	if specimen.InLimits(commonOf(a, b)) {
		has(t, "Meet has what the first hasn't", m, a, pick)
		has(t, "Meet has what the second hasn't", m, b, pick)
	}
	return found
}

// cutDown holds Only and Minus to what follows.
func cutDown(t *testing.T, a api.Type, kinds uint8, v api.Value, pick specimen.Source) {
	t.Helper()
	left, e := lattice.Only(a, kinds)
	answer(t, left, e)
	for _, x := range valuesOf(a, pick, left, never) {
		if kinds>>x.Kind&1 == 1 && !specimen.In(x, left) {
			t.Errorf("Only(%s, %b) = %s hasn't %.300s", short(a), kinds, short(left), fmt.Sprint(x))
		}
	}
	for _, x := range valuesOf(left, pick, a, never) {
		if kinds>>x.Kind&1 == 0 {
			t.Errorf("Only(%s, %b) = %s has %.300s", short(a), kinds, short(left), fmt.Sprint(x))
		}
	}
	if specimen.InLimits(leftOf(a, kinds)) {
		has(t, "Only has what the type hasn't", left, a, pick)
	}
	less, e := lattice.Minus(a, v)
	answer(t, less, e)
	for _, x := range valuesOf(a, pick, less, never) {
		if !specimen.Alike(x, v) && !specimen.In(x, less) {
			t.Errorf("Minus(%s, %.300s) = %s hasn't %.300s", short(a), fmt.Sprint(v), short(less), fmt.Sprint(x))
		}
	}
	if specimen.InLimits(withoutOf(a, v)) {
		has(t, "Minus has what the type hasn't", less, a, pick)
	}
}

// P13.6 and P13.7 over types that are drawn, that differ in one thing, and that are crowded.
func TestP13_6Drawn(t *testing.T) {
	t.Parallel()
	pick := random(10)
	some, found := specimen.WellShapedTypes(pick, 200), 0
	for i, a := range some {
		for _, b := range []api.Type{some[(i*7+1)%len(some)], some[(i*31+5)%len(some)], specimen.NudgedType(a, pick)} {
			joined(t, a, b, pick)
			if met(t, a, b, pick) {
				found++
			}
		}
		v, ok := specimen.DrawnOf(a, pick, specimen.Kinds()...)
		if !ok {
			v = specimen.Drawn(pick, 2)
		}
		cutDown(t, a, uint8(pick(256)), v, pick)
	}
	if found < 200 {
		t.Errorf("%d pairs had something in common", found)
	}
}

func TestP13_6Crowded(t *testing.T) {
	t.Parallel()
	pick := random(11)
	for range 60 {
		a := specimen.CrowdedType(pick, 1+pick(2))
		for _, b := range []api.Type{specimen.CrowdedType(pick, 1+pick(2)), specimen.NudgedType(a, pick)} {
			joined(t, a, b, pick)
			met(t, a, b, pick)
		}
		cutDown(t, a, uint8(pick(256)), specimen.Drawn(pick, 1), pick)
	}
}

// A value is taken out where types can say so: then what is left hasn't got it.
func TestP13_7Taken(t *testing.T) {
	empty, x := specimen.List(), specimen.Num
	for _, r := range []struct {
		a     api.Type
		v     api.Value
		taken bool
	}{
		{every, api.Value{}, true}, {every, specimen.Kind(api.False), true}, {both, specimen.Kind(api.True), true}, {nums("1", "3"), x("1"), true}, {nums("1", "3"), x("3"), true}, {nums("1", "1"), x("1"), true}, {nums("1", "3"), x("2"), false}, {anyNumber, x("2"), false}, {every, x("2"), false}, {nums("", huge), x(huge), true}, {texts("a", "b"), specimen.Text("a"), true}, {anyText, specimen.Text("a"), false}, {arrays(null, 0, -1), empty, true}, {arrays(never, 0, 0), empty, true}, {laid, empty, true}, {every, empty, false}, {arrays(null, 1, 1), specimen.List(api.Value{}), false}, {objects(objOf(never, nil)), specimen.Object(nil), false},
	} {
		got, e := lattice.Minus(r.a, r.v)
		if answer(t, got, e); !specimen.In(r.v, r.a) || specimen.In(r.v, got) == r.taken {
			t.Errorf("Minus(%s, %v) = %s", short(r.a), r.v, short(got))
		}
		cutDown(t, r.a, 127, r.v, random(12))
	}
}

// Within the limits Meet, Only and Minus are exact; just beyond them they have more, and all that they must have.
func TestP13_7Limits(t *testing.T) {
	pick := random(13)
	row := objects(specimen.Wide(12, null, true, never))
	for _, r := range [][2]api.Type{{texts(named(16)...), anyText}, {nest(null, 8), nest(every, 8)}, {row, objects(objOf(both, nil))}, {with(row, nest(texts(named(16)...), 8)), laid}} {
		met(t, r[0], r[1], pick)
		cutDown(t, r[0], shape.Kinds(r[0]), specimen.Text("00003"), pick)
	}
	more := func(wide, a api.Type) {
		t.Helper()
		if _, found := specimen.FoundStray(wide, a, pick); !found {
			t.Errorf("%s, beyond the limits: no other value was found in %s", short(a), short(wide))
		}
	}
	for _, a := range []api.Type{texts(named(17)...), nest(null, 9), objects(specimen.Wide(13, null, true, never)), objects(single("a!"), single("b!"), single("c!"), single("d!"), single("e!"))} {
		m, e := lattice.Meet(a, laid)
		more(answer(t, m, e), a)
		left, e := lattice.Only(a, 127)
		more(answer(t, left, e), a)
		less, e := lattice.Minus(a, specimen.Num("1"))
		more(answer(t, less, e), a)
		met(t, a, laid, pick)
		cutDown(t, a, 127, specimen.Num("1"), pick)
	}
}

// Units, and arguments turned round: Join's where no part has more than one alternative, Meet's always.
func TestP13_9(t *testing.T) {
	t.Parallel()
	pick := random(14)
	same := func(c two, a, b, want api.Type) {
		t.Helper()
		if got, e := c.do(a, b); e != api.OK || !alike(got, want) {
			t.Errorf("%s(%s, %s) = %s, %v, not %s", c.name, short(a), short(b), short(got), e, short(want))
		}
	}
	drawn := append(all(), specimen.WellShapedTypes(pick, 300)...)
	for range 100 {
		drawn = append(drawn, specimen.CrowdedType(pick, 2))
	}
	for i, a := range drawn {
		same(join, a, never, norm(a))
		same(join, never, a, norm(a))
		same(meet, a, every, norm(a))
		same(meet, every, a, norm(a))
		same(meet, a, never, never)
		same(meet, never, a, never)
		for _, b := range []api.Type{drawn[(i*13+7)%len(drawn)], specimen.NudgedType(a, pick)} {
			x, y := specimen.Single(a), specimen.Single(b)
			turned, e := lattice.Join(y, x)
			same(join, x, y, answer(t, turned, e))
			turned, e = lattice.Meet(b, a)
			same(meet, a, b, answer(t, turned, e))
		}
	}
}

// A list that is nil and one that is empty are no different.
func TestEmptyLists(t *testing.T) {
	full := specimen.EmptyListed
	for _, a := range append(all()[:60], never, every, laid) {
		for _, b := range []api.Type{never, every, null, arrays(null, 0, 2), objects(single("a!"))} {
			for _, c := range []two{join, meet, widen} {
				c.answers(t, full(a), full(b), c.words(a, b))
			}
		}
		isOnly(t, full(a), 127, norm(a))
		isMinus(t, full(a), specimen.Text("z"), norm(a))
	}
	empty := api.Obj{Names: []string{}, Fields: []api.Type{}, Must: []bool{}, Rest: full(null)}
	join.isBoth(t, objects(empty), objects(objOf(null, nil)), objects(objOf(null, nil)))
	meet.isBoth(t, objects(empty), objects(objOf(null, nil)), objects(objOf(null, nil)))
	widen.isBoth(t, objects(empty), objects(objOf(null, nil)), objects(objOf(null, nil)))
	meet.isBoth(t, arrays(full(null), 0, -1), arrays(full(truth), 0, -1), arrays(never, 0, 0))
}

// One type handed in twice, or as a part of itself: nothing is shared, nothing changed.
func TestMemoryTwice(t *testing.T) {
	for _, a := range all() {
		given := specimen.RoomyType(a)
		for _, c := range []two{join, meet, widen} {
			for _, args := range [][2]api.Type{{given, given}, {given, with(given)}, {with(given), given}} {
				got, e := c.do(args[0], args[1])
				sound(t, answer(t, got, e), given, args[0], args[1])
			}
			if !isNever(a) {
				got, e := c.do(given, api.Type{Arrays: []api.Arr{{Item: given, Max: -1}}})
				sound(t, answer(t, got, e), given)
			}
		}
		if !specimen.UntouchedType(given, a) {
			t.Errorf("%s was changed", short(a))
		}
	}
}

// told are the answers of all calls, as a text.
func told(types []api.Type, values []api.Value) string {
	var out []byte
	for i, a := range types {
		b := types[(i+1)%len(types)]
		for _, c := range []two{join, meet, widen} {
			got, e := c.do(a, b)
			out = fmt.Append(out, got, e)
		}
		left, e := lattice.Only(a, uint8(i*37))
		less, e2 := lattice.Minus(a, values[i%len(values)])
		out = fmt.Append(out, left, e, less, e2)
	}
	return string(out)
}

// The same calls at once, of the same things.
func TestSameness(t *testing.T) {
	pick := random(15)
	types, values := all(), specimen.WellShaped(pick, 20)
	for range 20 {
		types = append(types, specimen.CrowdedType(pick, 2))
	}
	if !specimen.AtOnce(func() string { return told(types, values) }) {
		t.Error("another answer")
	}
}

const deepest = 1<<16 - 2

// Types and values as deep as they may be.
func TestDeep(t *testing.T) {
	a, b := nest(null, deepest), nest(both, deepest)
	x, y := specimen.NestedType(null, deepest), specimen.NestedType(both, deepest)
	for i, r := range []struct {
		c          two
		a, b, want api.Type
	}{
		{join, a, b, nest(every, 8)}, {meet, a, b, nest(every, 8)}, {widen, a, b, nest(every, 8)}, {join, x, y, norm(y)}, {meet, x, y, norm(x)}, {meet, y, x, norm(x)}, {widen, x, y, norm(y)}, {meet, a, nest(truth, 3), nest(arrays(never, 0, 0), 2)}, {meet, nest(arrays(null, 1, -1), deepest-1), nest(arrays(truth, 1, -1), deepest-1), nest(every, 8)},
	} {
		if got, e := r.c.do(r.a, r.b); e != api.OK || !alike(got, r.want) {
			t.Errorf("%d: %s, %v", i, short(got), e)
		}
	}
	if got, e := lattice.Only(with(a, null), 1<<api.Array); e != api.OK || !alike(got, nest(every, 8)) {
		t.Errorf("%s, %v", short(got), e)
	}
	if got, e := lattice.Minus(a, specimen.List()); e != api.OK || !alike(got, arrays(nest(every, 7), 1, -1)) {
		t.Errorf("%s, %v", short(got), e)
	}
	if got, e := lattice.Minus(null, specimen.Nested(api.Value{}, deepest)); e != api.OK || !alike(got, null) {
		t.Errorf("%s, %v", short(got), e)
	}
	got, e := lattice.Minus(null, specimen.Nested(specimen.Kind(7), deepest))
	refused(t, "Minus", got, e)
	for _, c := range []two{join, meet, widen} {
		got, e := c.do(every, specimen.NestedType(texts("b", "a"), deepest))
		refused(t, c.name, got, e)
	}
}

// Long lists: none is gone through again for each of its elements.
func TestLong(t *testing.T) {
	const many = 1 << 17
	names := named(many)
	slices.Sort(names)
	var even []string
	for i := 0; i < many; i += 2 {
		even = append(even, names[i])
	}
	field := func(l []string, must bool) api.Obj {
		return api.Obj{Names: l, Fields: slices.Repeat([]api.Type{both}, len(l)), Must: slices.Repeat([]bool{must}, len(l)), Rest: null}
	}
	long := strings.Repeat("9", 1<<20)
	for i, r := range []struct {
		c          two
		a, b, want api.Type
	}{
		{meet, texts(names...), texts(names[:16]...), texts(names[:16]...)}, {meet, texts(names[7:10]...), texts(names...), texts(names[7:10]...)}, {meet, texts(even...), texts(names...), anyText}, {join, texts(even...), texts(names...), anyText}, {widen, texts(names...), texts(even...), anyText}, {meet, nums(long, long+"1"), nums(long+"0", ""), nums(long+"0", long+"1")},
		{meet, objects(field(names, false)), objects(field(even, true)), norm(objects(field(even, true)))}, {meet, anyObject, objects(field(names, true)), norm(objects(field(names, true)))}, {join, objects(field(names, true)), objects(field(names, true)), norm(objects(field(names, true)))},
	} {
		if got, e := r.c.do(r.a, r.b); e != api.OK || !alike(got, r.want) {
			t.Errorf("%d: %s, %v", i, short(got), e)
		}
	}
	if got, e := lattice.Minus(texts(names[:17]...), specimen.Text(names[3])); e != api.OK || len(got.Texts) != 16 {
		t.Errorf("%s, %v", short(got), e)
	}
	values := slices.Repeat([]api.Value{specimen.Num("1")}, many)
	if got, e := lattice.Minus(anyArray, specimen.List(values...)); e != api.OK || !alike(got, anyArray) {
		t.Errorf("%s, %v", short(got), e)
	}
	if got, e := lattice.Minus(nums("", long), specimen.Num(long)); e != api.OK || got.Nums[0].High != long[1:]+"8" {
		t.Errorf("%v", e)
	}
}

// FuzzAny holds all calls to the words and to what follows, on types that are drawn by the bytes.
func FuzzAny(f *testing.F) {
	for _, s := range []string{"", "\x01\x00\x01\x02\x00\x03\x04\x01\x02\x01\x02\x00\x02\x01\x01\x01\x02", "\x02\x01\x01\x01\x01\x01\x00\x01\x00\x02\x07\x05\x04\x03\x02\x01\x06\x05\x04\x03\x02\x01"} {
		f.Add([]byte(s))
	}
	f.Fuzz(func(t *testing.T, data []byte) {
		pick := specimen.Picks(data)
		a := [...]func(specimen.Source, int) api.Type{specimen.DrawnType, specimen.CrowdedType}[pick(2)](pick, 1+pick(2))
		b := specimen.NudgedType(specimen.NudgedType(a, pick), pick)
		v, kinds := specimen.Drawn(pick, 1), uint8(pick(256))
		for _, c := range []two{join, meet, widen} {
			c.check(t, a, b)
			c.check(t, b, a)
		}
		onlyWords(t, a, kinds)
		minusWords(t, a, v)
		joined(t, a, b, pick)
		met(t, a, b, pick)
		cutDown(t, a, kinds, v, pick)
		told([]api.Type{a, specimen.SpoiltType(b, pick)}, []api.Value{specimen.Spoilt(v, pick)})
	})
}
