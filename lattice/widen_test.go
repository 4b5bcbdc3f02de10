package lattice_test

import (
	"fmt"
	"math"
	"slices"
	"strings"
	"testing"

	"hallmark/api"
	"hallmark/lattice"
	"hallmark/specimen"
	"hallmark/tidy"
)

func TestP13_5Examples(t *testing.T) {
	one := nums("1", "1")
	widen.is(t, nums("1", "3"), nums("1", "4"), nums("1", ""))
	widen.is(t, nums("1", "3"), nums("0", "3"), nums("", "3"))
	widen.is(t, never, nums("1", "4"), nums("1", "4"))
	widen.is(t, texts("a"), texts("b"), anyText)
	widen.is(t, arrays(one, 1, 1), arrays(one, 2, 2), arrays(one, 1, -1))
	widen.is(t, nums("1", "3"), nums("2", "2"), nums("1", "3"))
}

// Where the join is the first one's normal form, that; where it is every, every.
func TestP13_5Ends(t *testing.T) {
	for _, a := range all() {
		widen.is(t, a, never, norm(a))
		widen.is(t, a, a, norm(a))
		widen.is(t, never, a, norm(a))
		widen.is(t, a, every, every)
		widen.is(t, every, a, every)
		widen.is(t, a, laid, every)
		widen.is(t, laid, a, every)
		if tidy.Is(a) {
			if v, ok := specimen.DrawnOf(a, random(6), api.Null, api.False, api.True, api.Number, api.Text); ok {
				widen.is(t, a, near(v), norm(a))
			}
		}
	}
	half, other := with(null, anyText, anyArray, api.Type{False: true}), with(truth, anyNumber, anyObject)
	widen.isBoth(t, half, other, every)
	widen.isBoth(t, with(half, anyNumber), with(truth, anyObject), every)
	widen.is(t, texts(named(17)...), texts("x"), anyText)
	widen.is(t, objects(single("a"), single("b!")), objects(single("a!")), objects(single("a"), single("b!")))
	widen.is(t, objects(single("b!"), single("a!"), single("a")), objects(single("b!")), objects(single("a"), single("b!")))
	widen.is(t, arrays(laid, 0, -1), arrays(null, 1, 1), anyArray)
	widen.is(t, nest(null, 9), nest(truth, 8), nest(every, 8))
}

// near is the type of one value that has no items.
func near(v api.Value) api.Type {
	return [...]api.Type{null, {False: true}, truth, nums(v.Num, v.Num), texts(v.Text)}[v.Kind]
}

// The first one's normal form may be every where the join isn't: alternatives of the second take the place of those that become one. Then all is as in the join.
func TestP13_5EveryFirst(t *testing.T) {
	a := laid
	a.Objects = []api.Obj{single("a!"), single("b!"), single("c!"), of("d!", null, every), of("e!", null, every)}
	b := objects(objOf(never, []string{"a", "b", "c"}, null, null, null))
	want := laid
	want.Objects = []api.Obj{b.Objects[0], of("d!", null, every), of("e!", null, every)}
	if !norm(a).All {
		t.Fatalf("%s", short(norm(a)))
	}
	widen.is(t, a, b, want)
	widen.is(t, b, a, every) // the alternatives aren't those that were: all are put in one
}

// flat rows are a type, another one without arrays and objects, and both widened, loosely or not.
func flat() [][3]api.Type {
	var out [][3]api.Type
	for _, r := range [][3][2]string{
		{{"1", "3"}, {"1", "4"}, {"1", ""}}, {{"1", "3"}, {"0", "3"}, {"", "3"}}, {{"1", "3"}, {"0", "4"}, {"", ""}}, {{"1", "3"}, {"2", "3"}, {"1", "3"}}, {{"1", "3"}, {"1", "3"}, {"1", "3"}}, {{"1", "3"}, {"7", "9"}, {"1", ""}}, {{"1", "3"}, {"-9", "-7"}, {"", "3"}}, {{"1", "3"}, {"1", ""}, {"1", ""}}, {{"1", "3"}, {"", "3"}, {"", "3"}}, {{"1", "3"}, {"", ""}, {"", ""}}, {{"1", "3"}, {"", "2"}, {"", "3"}}, {{"1", "3"}, {"2", ""}, {"1", ""}},
		{{"1", ""}, {"0", ""}, {"", ""}}, {{"1", ""}, {"2", "9"}, {"1", ""}}, {{"", "3"}, {"", "4"}, {"", ""}}, {{"", "3"}, {"1", "2"}, {"", "3"}}, {{"", "3"}, {"9", "9"}, {"", ""}}, {{"", ""}, {"1", "2"}, {"", ""}}, {{huge, huge}, {huge + "0", huge + "0"}, {huge, ""}}, {{huge, huge}, {"-" + huge, huge}, {"", huge}}, {{"-" + huge, huge}, {"-" + huge + "0", huge + "0"}, {"", ""}}, {{"-" + huge, huge}, {"-5", "5"}, {"-" + huge, huge}},
	} {
		out = append(out, [3]api.Type{nums(r[0][0], r[0][1]), nums(r[1][0], r[1][1]), nums(r[2][0], r[2][1])})
	}
	return append(out, [][3]api.Type{
		{null, nums("1", "4"), with(null, nums("1", "4"))}, {nums("1", "4"), null, with(null, nums("1", "4"))}, {null, truth, both}, {null, api.Type{False: true}, {Null: true, False: true}}, {truth, null, both}, {both, null, both}, {with(null, nums("1", "2")), with(truth, nums("2", "3")), with(both, nums("1", ""))},
		{texts("a"), texts("b"), anyText}, {texts("a", "b"), texts("a"), texts("a", "b")}, {texts("a", "b"), texts("a", "b"), texts("a", "b")}, {texts("a", "b"), texts("a", "b", "c"), anyText}, {texts("a"), anyText, anyText}, {anyText, texts("a"), anyText}, {null, texts("a", "b"), with(null, texts("a", "b"))}, {null, anyText, with(null, anyText)}, {texts("a", "b"), null, with(null, texts("a", "b"))}, {anyText, null, with(null, anyText)}, {texts(""), texts("", "a"), anyText}, {texts(named(16)...), texts("00003"), texts(named(16)...)}, {texts(named(16)...), texts("x"), anyText}, {null, texts(named(17)...), with(null, anyText)},
		{with(texts("a"), nums("1", "1")), with(texts("a"), nums("2", "2")), with(texts("a"), nums("1", ""))}, {with(texts("a"), nums("1", "1")), with(texts("b"), nums("1", "1")), with(anyText, nums("1", "1"))}, {with(texts("a"), null), every, every},
	}...)
}

// around are pairs of types around two others, and what these become where those, loosely widened, become in.
func around(a, b, in api.Type) [][3]api.Type {
	rest := arrays(nums("77", "77"), 7, 7)
	k := func(name string, x api.Type) api.Type { return objects(of(name, x, rest)) }
	return [][3]api.Type{
		{arrays(a, 0, -1), arrays(b, 0, -1), arrays(in, 0, -1)}, {arrays(a, 1, 2), arrays(b, 1, 2), arrays(in, 1, 2)}, {with(null, arrays(a, 1, 2)), arrays(b, 1, 1), with(null, arrays(in, 1, 2))},
		{k("k!", a), k("k!", b), k("k!", in)}, {objects(objOf(a, nil)), objects(objOf(b, nil)), objects(objOf(in, nil))}, {objects(objOf(rest, []string{"j!", "k!", "l"}, truth, a, anyText)), objects(objOf(rest, []string{"j!", "k!", "l"}, truth, b, anyText)), objects(objOf(rest, []string{"j!", "k!", "l"}, truth, in, anyText))},
	}
}

// Each line of what is widened kind by kind, at the top, and loosely inside others.
func TestP13_5Flat(t *testing.T) {
	for _, r := range flat() {
		widen.is(t, r[0], r[1], r[2])
		for _, in := range around(r[0], r[1], r[2]) {
			widen.is(t, in[0], in[1], norm(in[2]))
		}
	}
}

// Arrays: a Min, a Max and an item that grow or stay.
func TestP13_5Arrays(t *testing.T) {
	x, y, xy := nums("1", "2"), nums("1", "3"), nums("1", "")
	empty := arrays(never, 0, 0)
	for _, r := range [][3]api.Type{
		{null, arrays(x, 1, 2), with(null, arrays(x, 1, 2))}, {arrays(x, 1, 2), null, with(null, arrays(x, 1, 2))}, {arrays(x, 2, 5), arrays(x, 1, 5), arrays(x, 0, 5)}, {arrays(x, 2, 5), arrays(x, 2, 6), arrays(x, 2, -1)}, {arrays(x, 2, 5), arrays(x, 1, 6), arrays(x, 0, -1)}, {arrays(x, 2, 5), arrays(x, 3, 4), arrays(x, 2, 5)}, {arrays(x, 2, 5), arrays(x, 7, 9), arrays(x, 2, -1)}, {arrays(x, 2, 5), arrays(x, 0, 1), arrays(x, 0, 5)}, {arrays(x, 2, 5), empty, arrays(x, 0, 5)}, {arrays(x, 0, 5), empty, arrays(x, 0, 5)},
		{arrays(x, 2, -1), arrays(x, 3, 9), arrays(x, 2, -1)}, {arrays(x, 2, -1), arrays(x, 1, 1), arrays(x, 0, -1)}, {arrays(x, 2, 5), arrays(x, 2, -1), arrays(x, 2, -1)}, {arrays(x, 0, 5), arrays(x, 0, -1), arrays(x, 0, -1)}, {arrays(x, 1, 1), arrays(x, 0, 0+1), arrays(x, 0, 1)}, {empty, empty, empty}, {empty, arrays(x, 0, 3), arrays(x, 0, -1)}, {empty, arrays(x, 1, 3), arrays(x, 0, -1)}, {empty, arrays(x, 2, -1), arrays(x, 0, -1)}, {empty, null, with(null, empty)},
		{arrays(x, 2, 5), arrays(y, 2, 5), arrays(xy, 2, 5)}, {arrays(x, 2, 5), arrays(y, 3, 4), arrays(xy, 2, 5)}, {arrays(x, 2, 5), arrays(y, 1, 5), arrays(xy, 0, 5)}, {arrays(x, 2, 5), arrays(y, 2, 7), arrays(xy, 2, -1)}, {arrays(y, 2, 5), arrays(x, 1, 7), arrays(y, 0, -1)}, {arrays(x, 2, 5), arrays(every, 2, 5), arrays(every, 2, 5)}, {arrays(x, math.MaxInt-1, math.MaxInt-1), arrays(x, math.MaxInt, math.MaxInt), arrays(x, math.MaxInt-1, -1)}, {anyArray, arrays(x, 1, 1), anyArray}, {arrays(every, 1, -1), empty, anyArray},
		{with(null, arrays(x, 2, 5)), with(truth, arrays(x, 2, 5)), with(both, arrays(x, 2, 5))}, {with(nums("1", "1"), arrays(x, 2, 5)), nums("2", "2"), with(xy, arrays(x, 2, 5))},
	} {
		widen.is(t, r[0], r[1], r[2])
	}
}

// nested rows are two types with arrays or objects, and both loosely widened.
func nested() [][3]api.Type {
	x, y := arrays(nums("1", "2"), 2, 5), arrays(nums("1", "3"), 2, 5)
	a, b := objects(single("a!")), objects(single("b!"))
	ab := objects(single("a!"), single("b!"))
	return [][3]api.Type{
		{null, x, with(null, x)}, {x, null, with(null, x)}, {x, x, x}, {x, y, anyArray}, {y, x, y}, {x, arrays(nums("1", "2"), 1, 5), anyArray}, {x, arrays(nums("1", "2"), 2, 6), anyArray}, {x, arrays(nums("1", "2"), 3, 4), x}, {arrays(never, 0, 0), x, anyArray}, {x, arrays(never, 0, 0), anyArray}, {with(null, x), with(truth, x), with(both, x)}, {with(null, x), with(truth, y), with(both, anyArray)}, {with(nums("1", "1"), x), nums("2", "2"), with(nums("1", ""), x)}, {nest(null, 3), nest(truth, 3), anyArray}, {nest(null, 3), nest(null, 2), anyArray},
		{null, a, with(null, a)}, {null, ab, with(null, ab)}, {a, null, with(null, a)}, {ab, null, with(null, ab)}, {a, a, a}, {a, b, anyObject}, {a, objects(single("a")), anyObject}, {objects(single("a")), a, objects(single("a"))}, {ab, a, ab}, {a, ab, anyObject}, {ab, objects(single("c!")), anyObject}, {with(null, a), with(truth, a), with(both, a)}, {with(null, a), with(truth, b), with(both, anyObject)}, {with(a, x), with(b, x), with(anyObject, x)}, {with(a, x), with(a, y), with(a, anyArray)}, {with(a, x), with(b, y), with(anyObject, anyArray)}, {objects(objOf(null, nil)), objects(objOf(truth, nil)), anyObject}, {objects(objOf(never, nil)), a, anyObject}, {objects(objOf(null, nil)), a, objects(objOf(null, nil))}, {anyObject, a, anyObject},
		{with(null, truth, anyNumber, anyText, anyArray, a), with(api.Type{False: true}, b), every}, {x, every, every}, {with(texts("a"), a), with(texts("b"), a), with(anyText, a)},
	}
}

// What lies inside items, fields and rests is loosely widened.
func TestP13_5Loose(t *testing.T) {
	for _, r := range nested() {
		if got := looseOf(r[0], r[1]); !alike(got, norm(r[2])) {
			t.Errorf("%s and %s, by the words: %s, want %s", short(r[0]), short(r[1]), short(got), short(r[2]))
		}
		for _, in := range around(r[0], r[1], r[2]) {
			widen.is(t, in[0], in[1], norm(in[2]))
		}
	}
}

// Objects: none, the same and other alternatives; names on one side only; must on one and on both.
func TestP13_5Objects(t *testing.T) {
	one, two, more := nums("1", "1"), nums("2", "2"), nums("1", "")
	o, names := objects, func(l ...string) []string { return l }
	for _, r := range [][3]api.Type{
		{null, o(single("a!")), with(null, o(single("a!")))}, {null, o(single("a!"), single("b!")), with(null, o(single("a!"), single("b!")))}, {with(one, o(single("a!"), single("b!"))), two, with(more, o(single("a!"), single("b!")))}, {with(one, o(single("a!"), single("b!"))), with(two, o(single("b!"))), with(more, o(single("a!"), single("b!")))},
		{o(of("a!", one, never)), o(objOf(never, names("a!", "b!"), two, null)), o(of("a!", more, null))}, {o(of("a!", one, never)), o(of("a!", two, never)), o(of("a!", more, never))}, {o(of("a!", one, never)), o(of("a", two, never)), o(of("a", more, never))}, {o(of("a", one, never)), o(of("a!", two, never)), o(of("a", more, never))}, {o(of("a", one, never)), o(of("a", two, never)), o(of("a", more, never))}, {o(of("a!", one, never)), o(of("a", one, never)), o(of("a", one, never))},
		{o(of("a!", one, never)), o(of("b!", null, never)), o(of("a", one, null))}, {o(of("a!", one, never)), o(objOf(never, nil)), o(of("a", one, never))}, {o(objOf(never, nil)), o(of("a!", one, never)), o(objOf(one, nil))}, {o(of("a!", one, never)), o(objOf(anyNumber, nil)), o(objOf(anyNumber, nil))}, {o(of("a!", one, never)), o(objOf(nums("1", "5"), nil)), o(of("a", more, nums("1", "5")))}, {o(of("a!", one, null)), o(of("a!", one, truth)), o(of("a!", one, both))}, {o(of("a!", one, null)), o(of("b!", truth, null)), o(of("a", with(one, null), both))},
		{o(of("a!", one, null)), o(of("b!", null, never)), o(of("a", with(one), null))}, {o(of("a!", one, two)), o(of("a!", one, nums("2", "3"))), o(of("a!", one, nums("2", "")))}, {o(of("a!", one, two)), o(objOf(two, names("a!", "b"), one, nums("3", "3"))), o(of("a!", one, nums("2", "")))}, {o(of("a!", one, texts("x"))), o(objOf(texts("x"), names("a!", "b!"), one, texts("y"))), o(of("a!", one, anyText))},
		{o(objOf(never, names("a!", "b!"), one, one)), o(objOf(never, names("a!", "b!"), one, two)), o(objOf(never, names("a!", "b!"), one, more))}, {o(objOf(never, names("a!", "b!"), one, one)), o(objOf(never, names("b!", "c!"), two, null)), o(objOf(null, names("a", "b!"), one, more))}, {o(objOf(never, names("a!", "c!"), one, one)), o(objOf(never, names("b!", "c!", "d"), truth, one, null)), o(objOf(both, names("a", "c!"), one, one))}, {o(objOf(null, names("a!", "b"), one, two)), o(objOf(null, names("a!", "b"), two, one)), o(objOf(null, names("a!", "b"), more, nums("", "2")))},
		{o(of("a!", one, every)), o(of("b!", two, every)), anyObject}, {o(of("a!", one, every)), o(of("a!", two, every)), o(of("a!", more, every))}, {o(of("a!", one, never)), o(of("a!", two, every)), o(of("a!", more, every))}, {anyObject, o(single("a!")), anyObject}, {o(single("a!")), anyObject, anyObject},
	} {
		widen.is(t, r[0], r[1], r[2])
		widen.is(t, with(r[0], truth, texts("a")), with(r[1], truth), with(r[2], truth, texts("a")))
	}
}

// Several alternatives, on either side: all are put in one.
func TestP13_5Several(t *testing.T) {
	one, two, three := nums("1", "1"), nums("2", "2"), nums("3", "3")
	a, b := of("a!", one, never), of("a!", three, never)
	widen.is(t, objects(a, b), objects(of("a!", nums("5", "5"), never)), objects(of("a!", nums("1", ""), never)))
	widen.is(t, objects(a, b), objects(of("a!", two, never)), objects(of("a!", nums("1", "3"), never))) // in one it had that already
	widen.is(t, objects(a, b), objects(of("b!", two, never)), objects(of("a", nums("1", "3"), two)))
	widen.is(t, objects(a, of("b!", two, never)), objects(of("c!", null, never)), objects(objOf(null, []string{"a", "b"}, one, two)))
	widen.is(t, objects(a, objOf(never, []string{"a!", "b!"}, two, two)), objects(objOf(never, []string{"a!", "b"}, three, three)), objects(objOf(never, []string{"a!", "b"}, nums("1", ""), nums("2", ""))))
	widen.is(t, objects(a), objects(b, of("a!", nums("5", "5"), never), of("b!", null, never)), objects(of("a", nums("1", ""), null)))
	widen.is(t, objects(single("a!"), single("b!")), objects(single("a"), single("b")), objects(objOf(never, []string{"a", "b"}, null, null)))
	widen.is(t, objects(of("k!", texts("x"), never), of("k!", texts("y"), never)), objects(of("k!", texts("z"), never)), objects(of("k!", anyText, never)))
}

// The first one's normal form is widened, not the type as it was handed in.
func TestP13_5Normal(t *testing.T) {
	widen.is(t, objects(objOf(null, []string{"k"}, null)), objects(of("k!", truth, null)), objects(objOf(both, nil)))
	widen.is(t, objects(single("a!"), single("a")), objects(single("b!")), objects(objOf(null, nil)))
	widen.is(t, texts(named(17)...), with(texts("x"), null), with(anyText, null))
	widen.is(t, arrays(texts(named(17)...), 1, 1), arrays(texts("x"), 1, 2), arrays(anyText, 1, -1))
	widen.is(t, arrays(nest(null, 9), 1, 1), arrays(null, 1, 1), arrays(with(null, nest(every, 7)), 1, 1))
	widen.is(t, with(null, objects(specimen.Wide(13, truth, true, never))), objects(specimen.Wide(12, truth, true, truth)), with(null, objects(specimen.Wide(12, truth, true, truth))))
}

// What is said of names that are new is joined one behind the other, in the order of the names, behind the normal form of the rest: where alternatives become one on the way, that is seen.
func TestP13_5Beyond(t *testing.T) {
	one, two, three := nums("1", "1"), nums("2", "2"), nums("3", "3")
	abc, de := objects(single("a!"), single("b!"), single("c!")), objects(single("d!"), single("e!"))
	ab := objOf(never, []string{"a", "b"}, null, null)
	merged := objects(ab, single("c!"), objOf(never, []string{"d", "e"}, null, null))
	apart := objects(ab, single("c!"), single("d!"), single("e!"))
	first := objects(of("k!", one, never))
	widen.is(t, first, objects(objOf(abc, []string{"k!", "p", "q"}, two, de, objects(ab))), objects(of("k!", nums("1", ""), merged)))
	widen.is(t, first, objects(objOf(abc, []string{"k!", "p", "q"}, two, objects(ab), de)), objects(of("k!", nums("1", ""), apart)))
	widen.is(t, first, objects(objOf(abc, []string{"a", "k!", "q"}, objects(ab), two, de)), objects(of("k!", nums("1", ""), apart)))
	widen.is(t, first, objects(of("k!", two, abc), objOf(de, []string{"k!", "p"}, three, objects(ab))), objects(of("k!", nums("1", ""), merged)))
}

// Two types loosely widened inside, with names, alternatives, height and parts near the limits.
func TestP13_5Limits(t *testing.T) {
	t.Parallel()
	wide := specimen.Wide
	widen.is(t, objects(wide(12, nums("1", "1"), true, never)), objects(wide(12, nums("2", "2"), true, never)), objects(wide(12, nums("1", ""), true, never)))
	widen.is(t, objects(wide(12, null, true, never)), objects(wide(13, null, true, never)), objects(wide(12, null, true, null)))
	widen.is(t, nest(nums("1", "1"), 8), nest(nums("2", "2"), 8), arrays(anyArray, 0, -1))
	widen.is(t, nest(nums("1", "1"), 1), nest(nums("2", "2"), 1), nest(nums("1", ""), 1))
	deep := func(in api.Type) api.Type { return objects(wide(12, objects(wide(12, in, true, never)), true, never)) }
	widen.check(t, deep(null), deep(truth))
	widen.check(t, with(null, deep(null)), truth)
	widen.check(t, nest(deep(null), 2), nest(deep(null), 1))
	var four []api.Obj
	for _, first := range []string{"a", "b", "c", "d"} {
		o := wide(12, objects(wide(2, null, true, never)), true, never)
		for i := range o.Names {
			o.Names[i] = first + o.Names[i]
		}
		four = append(four, o)
	}
	widen.check(t, objects(four...), objects(single("x!"))) // in one it has 48 names
	widen.check(t, objects(four[:2]...), objects(four[2:]...))
}

func TestP13_5Drawn(t *testing.T) {
	t.Parallel()
	pick := random(7)
	some := specimen.WellShapedTypes(pick, 10)
	for _, a := range some {
		for _, b := range some {
			widen.check(t, a, b)
		}
	}
	for range 600 {
		a := specimen.DrawnType(pick, 3)
		b := specimen.NudgedType(a, pick)
		widen.check(t, a, b)
		widen.check(t, b, a)
	}
	for range 150 {
		a := specimen.CrowdedType(pick, 2)
		widen.check(t, a, specimen.CrowdedType(pick, 2))
		widen.check(t, a, specimen.NudgedType(a, pick))
	}
}

// row is how often a row of so many types changes, and at which step it does so for the last time.
func row(t *testing.T, now api.Type, steps int, next func(step int, now api.Type) api.Type) (changes, last int) {
	t.Helper()
	for step := 1; step <= steps; step++ {
		then, e := lattice.Widen(now, next(step, now))
		if e != api.OK {
			t.Fatalf("%v", e)
		}
		if !alike(then, now) {
			changes, last = changes+1, step
		}
		now = then
	}
	return changes, last
}

// growing are types that grow for ever, by a number and by the type that has come about.
func growing() []func(k int, now api.Type) api.Type {
	n := func(k int) string { return fmt.Sprint(k) }
	return []func(k int, now api.Type) api.Type{
		func(k int, _ api.Type) api.Type { return nums("0", n(k)) }, func(k int, _ api.Type) api.Type { return nums(n(-k), "0") }, func(k int, _ api.Type) api.Type { return nums(n(-k), "1"+strings.Repeat("0", k)) }, func(k int, _ api.Type) api.Type { return texts(n(k)) }, func(k int, _ api.Type) api.Type { return texts(named(k)...) },
		func(k int, _ api.Type) api.Type { return arrays(null, k, k) }, func(k int, _ api.Type) api.Type { return arrays(nums(n(k), n(k)), k, k) }, func(k int, _ api.Type) api.Type { return arrays(texts(n(k)), 1, 1) }, func(k int, _ api.Type) api.Type { return nest(null, k) }, func(_ int, now api.Type) api.Type { return arrays(with(now, null), 1, 1) }, func(_ int, now api.Type) api.Type { return arrays(arrays(with(now, truth), 2, 2), 1, 1) },
		func(k int, _ api.Type) api.Type { return objects(of(n(k)+"!", null, never)) }, func(k int, _ api.Type) api.Type { return objects(of("a!", nums(n(k), n(k)), never)) }, func(k int, _ api.Type) api.Type { return objects(of(n(k), texts(n(k)), nums(n(k), n(k)))) }, func(k int, _ api.Type) api.Type { return objects(objOf(texts(n(k)), nil)) }, func(k int, _ api.Type) api.Type { return objects(specimen.Wide(k%20, null, k%3 > 0, texts(n(k)))) }, func(k int, _ api.Type) api.Type {
			return objects(first(specimen.Wide(12, nums(n(k), n(k)), true, never), max(12-k, 0)))
		},
		func(_ int, now api.Type) api.Type { return objects(of("a!", with(now, null), never)) }, func(_ int, now api.Type) api.Type { return objects(objOf(now, nil)) }, func(k int, now api.Type) api.Type { return objects(of(n(k), now, never)) }, func(k int, now api.Type) api.Type {
			return objects(of("a!", arrays(with(now, texts(n(k))), k, k), null))
		}, func(k int, now api.Type) api.Type { return specimen.NestedType(with(now, nums(n(k), n(k))), k%7) },
	}
}

// first is an alternative of the first names alone.
func first(o api.Obj, many int) api.Obj {
	return api.Obj{Names: o.Names[:many], Fields: o.Fields[:many], Must: o.Must[:many], Rest: o.Rest}
}

// Rows whose arguments grow for ever come to rest: each sort alone, from each of some types on; it is soon seen, and they stay so.
func TestP13_8Growing(t *testing.T) {
	t.Parallel()
	for i, next := range growing() {
		for _, start := range []api.Type{never, null, nums("5", "5"), texts("a"), arrays(never, 0, 0), arrays(null, 2, 3), objects(objOf(never, nil)), objects(single("a!"), single("b!")), objects(specimen.Wide(12, null, true, never)), with(nums("0", "0"), texts("x"), arrays(null, 1, 1), objects(single("a!")))} {
			if changes, last := row(t, start, 120, next); changes > 40 || last > 60 {
				t.Errorf("sort %d, from %s on: %d changes, the last one at step %d", i, short(start), changes, last)
			}
		}
	}
}

// Rows whose arguments are of all sorts at once, and inside one another.
func TestP13_8Mixed(t *testing.T) {
	t.Parallel()
	pick := random(8)
	all := growing()
	for i := range 20 {
		next := func(step int, now api.Type) api.Type {
			out := all[pick(len(all))](step+2, now)
			for range pick(3) {
				switch in := with(out, null); pick(3) {
				case 0:
					out = arrays(in, pick(3), -1)
				case 1:
					out = objects(of([]string{"a!", "a", "b!", fmt.Sprint(step)}[pick(4)], in, never))
				case 2:
					out = objects(objOf(in, nil))
				}
			}
			return out
		}
		if changes, last := row(t, specimen.DrawnType(pick, 2), 700, next); changes > 60 || last > 500 {
			t.Errorf("row %d: %d changes, the last one at step %d", i, changes, last)
		}
	}
}

// Rows that are made as long as can be: of some types at hand, that one is taken which changes the least.
func TestP13_8Slow(t *testing.T) {
	t.Parallel()
	pick := random(9)
	longest := 0
	for range 25 {
		var hand []api.Type
		for range 12 {
			hand = append(hand, specimen.DrawnType(pick, 3), specimen.CrowdedType(pick, 1))
		}
		now, changes := specimen.DrawnType(pick, 2), 0
		for range 200 {
			then, changed := leastChange(t, now, hand)
			if !changed {
				break
			}
			now = then
			changes++
			hand[pick(len(hand))] = specimen.NudgedType(now, pick)
		}
		longest = max(longest, changes)
	}
	if longest > 100 {
		t.Errorf("%d changes", longest)
	}
}

// leastChange is what a type is widened to by the one of some that changes it the least.
func leastChange(t *testing.T, now api.Type, hand []api.Type) (api.Type, bool) {
	t.Helper()
	var all []api.Type
	for _, x := range hand {
		then, e := lattice.Widen(now, x)
		if e != api.OK {
			t.Fatalf("%v", e)
		}
		if !alike(then, now) {
			all = append(all, then)
		}
	}
	if len(all) == 0 {
		return now, false
	}
	slices.SortStableFunc(all, func(a, b api.Type) int { return specimen.PartsOf(b) - specimen.PartsOf(a) })
	return all[0], true
}
