package tidy_test

import (
	"fmt"
	"math"
	"slices"
	"strings"
	"testing"

	"hallmark/api"
	"hallmark/shape"
	"hallmark/specimen"
	"hallmark/tidy"
)

// hasAll: values of a type, drawn and looked for, are of another one.
func hasAll(t *testing.T, what string, a, b api.Type, pick specimen.Source) {
	t.Helper()
	if v, found := specimen.FoundStray(a, b, pick); found {
		t.Errorf("%s: %s and %s: %.300s is of the first alone", what, short(a), short(b), fmt.Sprint(v))
	}
}

// follows holds all that follows to a type, and to another one.
func follows(t *testing.T, a, b api.Type, height int, pick specimen.Source) {
	t.Helper()
	tidied, e := tidy.Tidy(a)
	cut, e2 := tidy.Cut(a, height)
	sum, e3 := tidy.Sum(a, b)
	if e != api.OK || e2 != api.OK || e3 != api.OK {
		t.Fatalf("%s, %s: %v, %v, %v", short(a), short(b), e, e2, e3)
	}
	hasAll(t, "Tidy", a, tidied, pick)
	hasAll(t, "Cut", a, cut, pick)
	hasAll(t, "Sum", a, sum, pick)
	hasAll(t, "Sum", b, sum, pick)
	if inLimits(a) {
		hasAll(t, "Tidy has more", tidied, a, pick)
	}
	twice, e := tidy.Tidy(tidied)
	if e != api.OK || !alike(twice, tidied) || !tidy.Is(tidied) {
		t.Errorf("Tidy of Tidy of %s: %s, then %s", short(a), short(tidied), short(twice))
	}
	if !inLimits(tidied) {
		t.Errorf("Tidy(%s): the limits", short(a))
	}
	if isNever(tidied) != isNever(a) || shape.Height(cut) > height || shape.Height(a) <= height && !alike(cut, a) {
		t.Errorf("%s: %s; cut to %d: %s", short(a), short(tidied), height, short(cut))
	}
	for _, answer := range []api.Type{tidied, cut, sum} {
		if !shape.Formed(answer) {
			t.Errorf("%s isn't well shaped", short(answer))
		}
	}
	if mixed, e := tidy.Tidy(specimen.Shuffled(a, pick)); e != api.OK || !alike(mixed, tidied) {
		t.Errorf("%s, in another order: %s, not %s", short(a), short(mixed), short(tidied))
	}
}

func TestP11_5Drawn(t *testing.T) {
	t.Parallel()
	pick := random(11)
	all := specimen.WellShapedTypes(pick, 400)
	for i, a := range all {
		follows(t, a, all[(i*7+1)%len(all)], i%5, pick)
	}
}

func TestP11_5Crowded(t *testing.T) {
	t.Parallel()
	pick := random(12)
	for range 150 {
		follows(t, specimen.CrowdedType(pick, 1+pick(3)), specimen.CrowdedType(pick, 2), pick(4), pick)
	}
	for range 20 {
		a := specimen.NestedType(specimen.CrowdedType(pick, 2), 5+pick(6))
		if shape.Formed(a) {
			follows(t, a, null, pick(10), pick)
		}
	}
}

// Types at the limits, so that their normal form has no other values; and just beyond them, so that it has.
func TestP11_5Limits(t *testing.T) {
	pick := random(13)
	full := objects(wide(12, null, false, truth), objOf(never, []string{"x!"}, texts(named(16)...)), objOf(null, []string{"y!"}, both), objOf(null, []string{"z!"}, both))
	for _, a := range []api.Type{full, texts(named(16)...), specimen.NestedType(null, 8), sized(8, 200), sized(2, 200), nest(full, 6), nest(texts(named(16)...), 8), objects(wide(12, null, true, truth))} {
		if !inLimits(a) {
			t.Fatalf("%s is beyond the limits", short(a))
		}
		follows(t, a, null, 3, pick)
	}
	for _, a := range []api.Type{texts(named(17)...), specimen.NestedType(null, 9), sized(2, 201), objects(wide(13, null, true, truth)), objects(single("a!"), single("b!"), single("c!"), single("d!"), single("e!"))} {
		follows(t, a, null, 3, pick)
		got, _ := tidy.Tidy(a)
		if more := specimen.Strays(got, a); !slices.ContainsFunc(more, func(v api.Value) bool { return !specimen.In(v, a) }) {
			t.Errorf("%s, beyond the limits: no other value was found in %s", short(a), short(got))
		}
	}
}

// Each object of one of several alternatives is of what they are in one.
func TestP11_5One(t *testing.T) {
	pick := random(14)
	for i := range 500 {
		var l []api.Obj
		for range 1 + pick(4) {
			l = append(l, [...]func(specimen.Source, int) api.Obj{specimen.DrawnObj, specimen.CrowdedObj}[i%2](pick, 1))
		}
		one, e := tidy.One(l)
		if e != api.OK || !shape.Formed(objects(one)) {
			t.Fatalf("One(%s): %v", short(objects(l...)), e)
		}
		for _, o := range l {
			hasAll(t, "One", objects(o), objects(one), pick)
		}
	}
}

// A list that is nil and one that is empty are no different.
func TestEmptyLists(t *testing.T) {
	full := specimen.EmptyListed
	empty := api.Obj{Names: []string{}, Fields: []api.Type{}, Must: []bool{}, Rest: full(never)}
	for _, r := range []row{
		{full(never), never}, {full(every), every}, {full(null), null}, {arrays(full(never), 0, 0), arrays(never, 0, 0)}, {arrays(full(null), 0, -1), arrays(null, 0, -1)}, {objects(empty), objects(objOf(never, nil))}, {objects(empty, objOf(never, nil)), objects(objOf(never, nil))},
		{objects(objOf(full(null), []string{"a"}, null)), objects(objOf(null, nil))}, {objects(objOf(null, []string{"a"}, full(null))), objects(objOf(null, nil))}, {full(laid), every},
	} {
		isTidied(t, r.a, r.want)
		isTidied(t, full(r.a), r.want)
		isSum(t, full(r.a), full(never), r.a)
		isSum(t, full(never), full(null), null)
	}
	isOne(t, objs(empty, empty), objOf(never, nil))
}

// told are the answers of all calls, as a text.
func told(all []api.Type) string {
	var out []byte
	for i, a := range all {
		tidied, e := tidy.Tidy(a)
		cut, e2 := tidy.Cut(a, i%4)
		sum, e3 := tidy.Sum(a, all[(i+1)%len(all)])
		one, e4 := tidy.One(a.Objects)
		out = fmt.Append(out, tidied, e, tidy.Is(a), cut, e2, sum, e3, one, e4)
	}
	return string(out)
}

// The same calls at once, of the same things.
func TestSameness(t *testing.T) {
	pick := random(15)
	all := specimen.WellShapedTypes(pick, 50)
	for range 20 {
		all = append(all, specimen.CrowdedType(pick, 2))
	}
	if !specimen.AtOnce(func() string { return told(all) }) {
		t.Error("another answer")
	}
}

const deepest = 1<<16 - 2

// Types as deep as they may be.
func TestDeep(t *testing.T) {
	for _, a := range []api.Type{nest(null, deepest), specimen.NestedType(null, deepest)} {
		got, e := tidy.Tidy(a)
		if e != api.OK || !alike(got, normTo(a, 8)) || shape.Height(got) != 8 || tidy.Is(a) {
			t.Errorf("%s, %v", short(got), e)
		}
		for _, height := range []int{0, 1, 100, deepest - 1} {
			if cut, e := tidy.Cut(a, height); e != api.OK || shape.Height(cut) != height || shape.Same(cut, a) {
				t.Errorf("cut to %d: %v, %d high", height, e, shape.Height(cut))
			}
		}
		for _, height := range []int{deepest, deepest + 1, math.MaxInt} {
			if cut, e := tidy.Cut(a, height); e != api.OK || !shape.Same(cut, a) {
				t.Errorf("cut to %d: %v", height, e)
			}
		}
	}
	sum, e := tidy.Sum(nest(null, deepest), nest(truth, deepest))
	if e != api.OK || !shape.Same(sum, nest(both, deepest)) {
		t.Errorf("the sum: %v", e)
	}
	one, e := tidy.One(objs(objOf(nest(null, deepest-1), []string{"a"}, nest(null, deepest-1)), objOf(nest(truth, deepest-1), nil)))
	if e != api.OK || !shape.Same(objects(one), objects(objOf(nest(both, deepest-1), []string{"a"}, nest(both, deepest-1)))) {
		t.Errorf("several in one: %v", e)
	}
	for _, wrong := range []api.Type{nums("5", "4"), texts("b", "a"), {All: true, Null: true}} {
		a := specimen.NestedType(wrong, deepest)
		_, e := tidy.Tidy(a)
		_, e2 := tidy.Cut(a, 0)
		_, e3 := tidy.Sum(every, a)
		_, e4 := tidy.One(objs(objOf(a, nil)))
		if e != api.ErrShape || e2 != api.ErrShape || e3 != api.ErrShape || e4 != api.ErrShape || tidy.Is(a) {
			t.Errorf("%s, deep inside: %v, %v, %v, %v", short(wrong), e, e2, e3, e4)
		}
	}
}

// Long lists: none is gone through again for each of its elements.
func TestLong(t *testing.T) {
	const many = 1 << 17
	names := named(many) // five digits or six, in the order of bytes
	slices.Sort(names)
	o := api.Obj{Names: names, Fields: slices.Repeat([]api.Type{null}, many), Must: slices.Repeat([]bool{true}, many), Rest: truth}
	for _, r := range []row{
		{texts(names...), anyText}, {arrays(texts(names...), 0, -1), arrays(anyText, 0, -1)}, {objects(o), objects(first(o, 12, both))}, {nums("-"+strings.Repeat("9", 1<<20), strings.Repeat("9", 1<<20)), nums("-"+strings.Repeat("9", 1<<20), strings.Repeat("9", 1<<20))},
		{objects(slices.Repeat(objs(single("a!")), many)...), objects(single("a!"))}, {objects(slices.Repeat(objs(single("a!"), objOf(null, nil)), many/2)...), objects(objOf(null, nil))},
	} {
		if got, e := tidy.Tidy(r.a); e != api.OK || !alike(got, r.want) {
			t.Errorf("%s, %v", short(got), e)
		}
	}
	even, odd := []string{}, []string{}
	for i := 0; i < many; i += 2 {
		even, odd = append(even, names[i]), append(odd, names[i+1])
	}
	if got, e := tidy.Sum(texts(even...), texts(odd...)); e != api.OK || !slices.Equal(got.Texts, names) {
		t.Errorf("the sum of texts: %v", e)
	}
	if got, e := tidy.One(objs(o, objOf(never, nil), o)); e != api.OK || !slices.Equal(got.Names, names) || slices.Contains(got.Must, true) {
		t.Errorf("names: %v", e)
	}
	var all []api.Obj
	for range many {
		all = append(all, objOf(texts("a"), []string{"a!"}, nums("1", "2")))
	}
	if got, e := tidy.One(all); e != api.OK || !alike(objects(got), objects(all[0])) {
		t.Errorf("many in one: %v", e)
	}
}

// Many alternatives, and many in many.
func TestManyAlternatives(t *testing.T) {
	var many []api.Obj
	for i, name := range named(700) {
		many = append(many, objOf(never, []string{name + "!"}, nums(fmt.Sprint(i), fmt.Sprint(i))))
	}
	want := objects(many[0], many[1], many[2], objOf(nums("15", "699"), nil))
	for _, o := range many[3:15] {
		last := &want.Objects[3]
		last.Names, last.Fields, last.Must = append(last.Names, o.Names[0]), append(last.Fields, o.Fields[0]), append(last.Must, false)
	}
	for _, l := range [][]api.Obj{many, reversed(many)} {
		if got, e := tidy.Tidy(objects(l...)); e != api.OK || !alike(got, want) {
			t.Errorf("%s, %v", short(got), e)
		}
	}
	deep := null
	for range 6 {
		deep = objects(objOf(never, []string{"a!"}, deep), objOf(never, []string{"b!"}, deep), objOf(never, []string{"c!"}, deep), objOf(never, []string{"d!"}, deep), objOf(never, []string{"e!"}, deep))
	}
	if got, e := tidy.Tidy(deep); e != api.OK || !alike(got, normOf(deep)) {
		t.Errorf("%s, %v", short(got), e)
	}
}

func reversed(l []api.Obj) []api.Obj {
	out := slices.Clone(l)
	slices.Reverse(out)
	return out
}

// FuzzAny holds all calls to the words, on types that are drawn by the bytes.
func FuzzAny(f *testing.F) {
	for _, s := range []string{"", "\x01\x00\x01\x02\x00\x03\x04\x01\x02\x01\x02\x00\x02\x01\x01\x01\x02", "\x02\x01\x01\x01\x01\x01\x00\x01\x00\x02\x07\x05\x04\x03\x02\x01\x06\x05\x04\x03\x02\x01"} {
		f.Add([]byte(s))
	}
	f.Fuzz(func(t *testing.T, data []byte) {
		pick := specimen.Picks(data)
		a := [...]func(specimen.Source, int) api.Type{specimen.DrawnType, specimen.CrowdedType}[pick(2)](pick, 1+pick(3))
		b := specimen.NudgedType(a, pick)
		check(t, a)
		check(t, b)
		isSum(t, a, b, sumOf(a, b))
		height := pick(4)
		isCut(t, b, height, cutOf(b, height))
		if len(b.Objects) > 0 {
			isOne(t, b.Objects, oneOf(b.Objects))
		}
		follows(t, b, a, height, pick)
		told([]api.Type{a, specimen.SpoiltType(b, pick)})
	})
}
