package sample_test

import (
	"fmt"
	"math"
	"slices"
	"strings"
	"testing"

	"hallmark/api"
	"hallmark/sample"
	"hallmark/specimen"
	"hallmark/value"
)

// Types that are drawn, that are crowded, and that differ in one thing, held to the words.
func TestP14_1Drawn(t *testing.T) {
	t.Parallel()
	pick := random(141)
	for _, a := range specimen.WellShapedTypes(pick, 300) {
		check(t, a)
		check(t, specimen.NudgedType(a, pick))
	}
	for range 100 {
		check(t, specimen.CrowdedType(pick, 1+pick(2)))
	}
	for range 60 {
		check(t, specimen.DrawnType(pick, 5))
	}
}

// A list that is nil and one that is empty are no different.
func TestEmptyLists(t *testing.T) {
	full := specimen.EmptyListed
	for _, a := range append(specimen.WellShapedTypes(random(144), 50), rich()) {
		answers(t, full(a), samplesOf(a, 0))
	}
	empty := api.Obj{Names: []string{}, Fields: []api.Type{}, Must: []bool{}, Rest: full(null)}
	is(t, objects(empty), `{} {"x":null}`)
	is(t, arrays(full(null), 0, 1), "[] [null]")
	is(t, api.Type{Arrays: []api.Arr{{Item: full(never)}}}, "[]")
}

// told are the answers of all calls, as a text.
func told(types []api.Type) string {
	var out []byte
	for i, a := range types {
		one, ok := sample.Some(a)
		out = fmt.Append(out, one, ok, sample.First(a, i), slices.Collect(sample.Values(a)))
	}
	return string(out)
}

// The same calls at once, of the same things; and one sequence gone through at once.
func TestSameness(t *testing.T) {
	pick := random(145)
	types := append(specimen.WellShapedTypes(pick, 40), rich(), specimen.CrowdedType(pick, 2))
	if !specimen.AtOnce(func() string { return told(types) }) {
		t.Error("another answer")
	}
	seq := sample.Values(rich())
	if !specimen.AtOnce(func() string { return fmt.Sprint(slices.Collect(seq)) }) {
		t.Error("another row")
	}
}

const deepest = 1<<16 - 2

// Types as deep as they may be.
func TestDeep(t *testing.T) {
	lists := "[] [[]] [[[]]] [[[[]]]] [[],[[]]] [[[]],[[[]]]] [[[[]]],[[[[]]]]]"
	forced := null
	for range deepest {
		forced = arrays(forced, 1, 1)
	}
	for i, r := range []struct {
		a    api.Type
		want string
	}{
		{specimen.Nest(null, deepest), lists}, {specimen.Nest(every, deepest), lists}, {specimen.NestedType(null, 3*(deepest/3)), `{} {"x":{}} {"x":{"a":[]}} {"x":{"a":[{}]}}`}, {forced, ""}, {specimen.NestedType(texts("b", "a"), deepest), ""},
	} {
		got := sample.First(r.a, math.MaxInt)
		one, ok := sample.Some(r.a)
		if !alikeRows(got, js(r.want)) || ok != (len(got) > 0) || ok && !specimen.Alike(one, got[0]) {
			t.Errorf("%d: %s; %s, %v", i, row(got), row([]api.Value{one}), ok)
		}
	}
}

// Arrays in one another, each of which must have an item: 4095 around null weigh 4096.
func TestDeepHeavy(t *testing.T) {
	forced, want := null, api.Value{}
	for range 4094 {
		forced, want = arrays(forced, 1, 1), specimen.List(want)
	}
	for _, many := range []int{1, 1, 0, 0} {
		if got := sample.First(forced, 9); len(got) != many || many > 0 && (!specimen.Alike(got[0], want) || value.Weight(got[0]) > 4096) {
			t.Errorf("%d", len(got))
		}
		forced, want = arrays(forced, 1, 1), specimen.List(want)
	}
}

// What has no samples, in one another: nothing is asked for again and again.
func TestDeepNone(t *testing.T) {
	for _, r := range []struct {
		deep   int
		around func(api.Type) api.Type
	}{
		{2000, func(a api.Type) api.Type { return arrays(a, 1, -1) }},
		{2000, func(a api.Type) api.Type { return objects(objOf(null, []string{"k!"}, a)) }},
		{7, func(a api.Type) api.Type { return with(arrays(a, 1, 3), objects(objOf(never, []string{"k!"}, a))) }},
	} {
		a := tooHeavy
		for range r.deep {
			a = r.around(a)
		}
		is(t, a, "")
		is(t, arrays(a, 0, -1), "[]")
		is(t, objects(objOf(a, []string{"k", "l!"}, a, null)), `{"l":null}`)
	}
}

// isMany holds the number of samples, the first ones and the last one, where the words would take long.
func isMany(t *testing.T, a api.Type, many int, first string, last api.Value) {
	t.Helper()
	got, begin := sample.First(a, math.MaxInt), js(first)
	if len(got) != many || !alikeRows(got[:len(begin)], begin) || !specimen.Alike(got[many-1], last) {
		t.Errorf("%s: %d samples, at first %s", short(a), len(got), row(got[:min(len(got), 5)]))
	}
	if got := sample.First(a, len(begin)); !alikeRows(got, begin) {
		t.Errorf("%s: the first are %s", short(a), row(got))
	}
}

// Long lists: none is gone through again for each of its elements.
func TestLong(t *testing.T) {
	const many = 1 << 17
	names := specimen.Named(100000)
	last := names[len(names)-1]
	isMany(t, texts(names...), len(names), `"00000" "00001"`, specimen.Text(last))
	var alts []api.Obj
	for _, name := range names {
		alts = append(alts, objOf(never, []string{name + "!"}, null))
	}
	isMany(t, objects(alts...), len(names), `{"00000":null} {"00001":null}`, specimen.Object([]string{last}, api.Value{}))
	same := slices.Repeat([]api.Obj{objOf(both, []string{"a"}, null)}, many)
	isMany(t, objects(same...), 4, `{} {"a":null} {"x":null}`, specimen.Object([]string{"x"}, specimen.Kind(api.True)))
	isMany(t, objects(specimen.Wide(100000, null, false, null)), 2, `{}`, specimen.Object([]string{"x"}, api.Value{}))
	if got := sample.First(objects(specimen.Wide(100000, every, true, null)), 9); len(got) > 0 {
		t.Errorf("%d heavy objects", len(got))
	}
	digits := strings.Repeat("9", 1<<20)
	isMany(t, nums("-"+digits, digits), 7, "0 1 -1 2 10 -7", specimen.Num("100000000000000000000"))
	isMany(t, arrays(texts(names...), 682, -1), 3, "", turnedTexts(names, 2, 682)) // 6 each: one more is too many
}

// turnedTexts is an array of n of these texts, from one of them on.
func turnedTexts(names []string, first, n int) api.Value {
	out := specimen.List()
	for _, name := range names[first : first+n] {
		out.Items = append(out.Items, specimen.Text(name))
	}
	return out
}

// Names of x alone, without end; one of them isn't there.
func TestLongNames(t *testing.T) {
	var names []string
	for i := range 3000 {
		if i != 2500 {
			names = append(names, strings.Repeat("x", i+1))
		}
	}
	for _, r := range []struct {
		names []string
		want  int
	}{{names, 2501}, {names[:2500], 2501}, {names[1:], 1}, {names[:1], 2}} {
		a := objects(api.Obj{Names: r.names, Fields: slices.Repeat([]api.Type{tooHeavy}, len(r.names)), Must: make([]bool, len(r.names)), Rest: truth})
		isMany(t, a, 2, "{}", specimen.Object([]string{strings.Repeat("x", r.want)}, specimen.Kind(api.True)))
	}
}

// FuzzAny holds all calls to the words and to what follows, on types that are drawn by the bytes.
func FuzzAny(f *testing.F) {
	for _, s := range []string{"", "\x01\x00\x01\x02\x00\x03\x04\x01\x02\x01\x02\x00\x02\x01\x01\x01\x02", "\x02\x01\x01\x01\x01\x01\x00\x01\x00\x02\x07\x05\x04\x03\x02\x01\x06\x05\x04\x03\x02\x01"} {
		f.Add([]byte(s))
	}
	f.Fuzz(func(t *testing.T, data []byte) {
		pick := specimen.Picks(data)
		a := [...]func(specimen.Source, int) api.Type{specimen.DrawnType, specimen.CrowdedType}[pick(2)](pick, 1+pick(3))
		b := specimen.NudgedType(specimen.NudgedType(a, pick), pick)
		for _, one := range []api.Type{a, b} {
			check(t, one)
			sound(t, one)
		}
		answers(t, specimen.SpoiltType(b, pick), nil)
	})
}
