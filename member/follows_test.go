package member_test

import (
	"fmt"
	"slices"
	"testing"

	"hallmark/api"
	"hallmark/member"
	"hallmark/path"
	"hallmark/specimen"
	"hallmark/value"
)

// nudged is a value with one thing changed somewhere in it.
func nudged(v api.Value, pick specimen.Source) api.Value {
	v = value.Twin(v)
	if len(v.Items) > 0 && pick(4) > 0 {
		at := pick(len(v.Items))
		v.Items[at] = nudged(v.Items[at], pick)
		return v
	}
	switch {
	case v.Kind == api.Array && pick(2) == 0:
		v.Items = append(v.Items, specimen.Drawn(pick, 1))
	case v.Kind == api.Array && len(v.Items) > 0:
		v.Items = v.Items[1:]
	case v.Kind == api.Object && pick(2) == 0:
		v, _ = value.With(v, specimen.Names()[pick(12)], specimen.Drawn(pick, 1))
	case v.Kind == api.Object && len(v.Keys) > 0:
		v, _ = value.Without(v, v.Keys[pick(len(v.Keys))])
	default:
		v = specimen.Drawn(pick, 1)
	}
	return v
}

// Values of types and values near them, held to the words; each reason comes, at the top and deep inside.
func TestP10_1P10_2P10_3Words(t *testing.T) {
	pick := random(10)
	var told [8][3]int // how often a reason came by how long a way
	for range 4000 {
		a := specimen.DrawnType(pick, 3)
		if pick(3) > 0 {
			a = specimen.Single(a)
		}
		kinds := specimen.Kinds()
		if pick(2) == 0 {
			kinds = kinds[api.Array:]
		}
		v, ok := specimen.DrawnOf(a, pick, kinds...)
		if !ok {
			v = specimen.Drawn(pick, 2)
		} else {
			is(t, v, a, nil, member.Fits)
		}
		for range 3 {
			v = nudged(v, pick)
			check(t, v, a)
			way, reason := whyOf(v, a)
			told[reason][min(len(way), 2)]++
		}
	}
	if told[member.Fits][0] < 1000 {
		t.Errorf("Fits came %d times", told[member.Fits][0])
	}
	for reason := member.Kind; reason <= member.NoneOf; reason++ {
		for steps, often := range told[reason] {
			if often < 5 && (steps > 0 || reason != member.Lacks) {
				t.Errorf("the reason %d by %d steps came %d times", reason, steps, often)
			}
		}
	}
}

// Any well shaped value against any well shaped type.
func TestP10_1P10_2P10_3Pairs(t *testing.T) {
	pick := random(3)
	values := specimen.WellShaped(pick, 40)
	for _, a := range specimen.WellShapedTypes(pick, 60) {
		for _, v := range values {
			check(t, v, a)
		}
	}
}

// A value that isn't well shaped is refused, whatever the type says of it.
func TestP10_1P10_2MisshapenValues(t *testing.T) {
	n, w, l, o := sorts()
	types := []api.Type{every, never, null, n, w, l, o, anyText, arrays(every, 0, -1), arrays(never, 0, 0), objects(objOf(every, nil)), objects(objOf(every, []string{"zz!"}, every)), objects(api.Obj{}, objOf(every, nil))}
	for _, v := range specimen.Wrong() {
		for _, a := range types {
			refused(t, v, a)
		}
	}
}

// A type that isn't well shaped is refused, whatever the value: one that it has, one of another kind, one that doesn't reach where it is wrong.
func TestP10_1P10_2MisshapenTypes(t *testing.T) {
	var values []api.Value
	for _, s := range []string{`null`, `true`, `1`, `"a"`, `[]`, `[null]`, `{}`, `{"a":null}`, `{"a":1,"b":[{}]}`} {
		values = append(values, js(s))
	}
	for _, a := range specimen.WrongTypes() {
		for _, v := range values {
			refused(t, v, a)
		}
	}
	pick := random(7)
	for range 1000 {
		a := specimen.DrawnType(pick, 3)
		v, _ := specimen.DrawnOf(a, pick, specimen.Kinds()...)
		refused(t, v, specimen.SpoiltType(a, pick))
		refused(t, specimen.Spoilt(v, pick), a)
		refused(t, specimen.Spoilt(v, pick), specimen.SpoiltType(a, pick))
	}
}

// Both aren't well shaped.
func TestP10_1P10_2MisshapenBoth(t *testing.T) {
	values, types := specimen.Misshapen(), specimen.MisshapenTypes()
	for i, v := range values {
		for k := i % 7; k < len(types); k += 7 {
			refused(t, v, types[k])
			refused(t, specimen.Nested(v, 3), specimen.NestedType(types[k], 3))
		}
	}
}

// What is written into a way is in no other answer.
func TestMemoryOfAnswers(t *testing.T) {
	pick := random(4)
	for range 1000 {
		a := specimen.Single(specimen.DrawnType(pick, 3))
		v, _ := specimen.DrawnOf(a, pick, specimen.Kinds()...)
		v = nudged(v, pick)
		given, of := specimen.Roomy(v), specimen.RoomyType(a)
		first, _, _ := member.Why(given, of)
		want, reason := whyOf(v, a)
		first = append(first, text("more"))
		specimen.Scribble(list(first...))
		second, again, _ := member.Why(given, of)
		if !alikeWays(second, want) || again != reason || !specimen.Untouched(given, v) || !specimen.UntouchedType(of, a) {
			t.Errorf("Why(%s, %s) = %s, %d, behind what was written into its answer", short(v), short(a), short(second), again)
		}
		specimen.Scribble(given)
		specimen.ScribbleType(of)
		if !alikeWays(second, want) {
			t.Errorf("the way %s, behind what was written into the value and the type", short(second))
		}
	}
}

// A list that is nil and one that is empty are no different.
func TestEmptyLists(t *testing.T) {
	full := specimen.EmptyListed
	empty := api.Obj{Names: []string{}, Fields: []api.Type{}, Must: []bool{}, Rest: full(never)}
	types := []api.Type{never, every, null, anyNumber, anyText, texts("a"), arrays(full(never), 0, 0), arrays(full(null), 0, -1), objects(empty), objects(empty, empty)}
	for _, v := range []api.Value{kind(api.Null), num("1"), text("a"), list(), object(nil), list(list()), object([]string{"a"}, list())} {
		w := v
		w.Items, w.Keys = append([]api.Value{}, v.Items...), append([]string{}, v.Keys...)
		for _, a := range types {
			way, reason := whyOf(v, a)
			for _, of := range []api.Type{a, full(a)} {
				is(t, v, of, way, reason)
				is(t, w, of, way, reason)
			}
		}
	}
}

// The same calls at once, of the same things.
func TestSameness(t *testing.T) {
	values, types := specimen.WellShaped(random(5), 30), specimen.WellShapedTypes(random(5), 30)
	answers := func() string {
		var out []byte
		for _, v := range values {
			for _, a := range types {
				in, e := member.In(v, a)
				way, why, f := member.Why(v, a)
				out = fmt.Append(out, in, e, way, why, f)
			}
		}
		return string(out)
	}
	if !specimen.AtOnce(answers) {
		t.Error("another answer")
	}
}

const deepest = 1<<16 - 2

// nestedType has a value within so many others as specimen.Nested puts it there.
func nestedType(a api.Type, deep int) api.Type {
	for i := range deep {
		if i%2 == 0 {
			a = arrays(a, 1, 1)
		} else {
			a = objects(objOf(never, []string{"a!"}, a))
		}
	}
	return a
}

// wayDown is the way into such a value.
func wayDown(deep int) []api.Value {
	var out []api.Value
	for i := deep - 1; i >= 0; i-- {
		if i%2 == 0 {
			out = append(out, num("0"))
		} else {
			out = append(out, text("a"))
		}
	}
	return out
}

// Values and types as deep as they may be.
func TestDeep(t *testing.T) {
	lacking := objects(objOf(never, []string{"b!"}, null))
	for _, c := range []struct {
		v      api.Value
		a      api.Type
		way    []api.Value
		reason int
	}{
		{num("5"), nums("1", "5"), nil, member.Fits}, {num("6"), nums("1", "5"), nil, member.Bound}, {text("x"), anyNumber, nil, member.Kind}, {object(nil), lacking, []api.Value{text("b")}, member.Lacks}, {object(nil), objects(lacking.Objects[0], lacking.Objects[0]), nil, member.NoneOf},
	} {
		v, a := specimen.Nested(c.v, deepest-1), nestedType(c.a, deepest-1)
		want := append(wayDown(deepest-1), c.way...)
		if c.reason == member.Fits {
			want = nil
		}
		if in, e := member.In(v, a); in != (c.reason == member.Fits) || e != api.OK {
			t.Errorf("In of what lies deep: %v, %d, with %d", in, e, c.reason)
		}
		way, why, e := member.Why(v, a)
		if !alikeWays(way, want) || why != c.reason || e != api.OK {
			t.Errorf("Why of what lies deep: %d steps, %d, %d", len(way), why, e)
		}
		if why != member.Fits && why != member.Lacks {
			if part, e := path.Get(v, way); e != api.OK || !specimen.Alike(part, c.v) {
				t.Errorf("the way leads to %s, %d", short(part), e)
			}
		}
	}
	if _, why, e := member.Why(specimen.Nested(num("x"), deepest), every); why != 0 || e != api.ErrShape {
		t.Errorf("a deep value that isn't well shaped: %d, %d", why, e)
	}
	if _, why, e := member.Why(api.Value{}, specimen.NestedType(nums("5", "4"), deepest)); why != 0 || e != api.ErrShape {
		t.Errorf("a deep type that isn't well shaped: %d, %d", why, e)
	}
}

// Alternatives within alternatives: what lies deep isn't looked at again and again.
func TestDeepAlternatives(t *testing.T) {
	const levels = 1 << 15
	v, wrong, a := num("1"), num("2"), nums("1", "1")
	other := objOf(never, []string{"b!"}, null)
	for range levels {
		v, wrong = object([]string{"a"}, v), object([]string{"a"}, wrong)
		a = objects(other, objOf(never, []string{"a!"}, a), other)
	}
	if in, e := member.In(v, a); !in || e != api.OK {
		t.Errorf("In = %v, %d", in, e)
	}
	if way, why, e := member.Why(v, a); len(way) != 0 || why != member.Fits || e != api.OK {
		t.Errorf("Why = %s, %d, %d", short(way), why, e)
	}
	if way, why, e := member.Why(wrong, a); len(way) != 0 || why != member.NoneOf || e != api.OK {
		t.Errorf("Why = %s, %d, %d", short(way), why, e)
	}
	way, why, e := member.Why(list(v, v, wrong, v), arrays(a, 0, -1))
	if !alikeWays(way, []api.Value{num("2")}) || why != member.NoneOf || e != api.OK {
		t.Errorf("Why = %s, %d, %d", short(way), why, e)
	}
}

// Long lists in values and types: none is gone through again for each item of another one.
func TestLong(t *testing.T) {
	const many = 1 << 17
	var names []string
	var words []api.Value
	var alternatives []api.Obj
	for i := range many {
		names = append(names, fmt.Sprintf("%07d", i))
		words = append(words, text(names[i]))
		alternatives = append(alternatives, objOf(never, []string{names[i] + "!"}, texts(names[i])))
	}
	strange := append(slices.Clone(words[:many-1]), text("x"))
	open := objOf(never, names, slices.Repeat([]api.Type{anyText}, many)...)
	closed := api.Obj{Names: names, Fields: open.Fields, Must: slices.Repeat([]bool{true}, many)}
	last, one := words[many-1], object(names[many-1:], words[many-1])
	for i, c := range []struct {
		v      api.Value
		a      api.Type
		way    []api.Value
		reason int
	}{
		{list(words...), arrays(texts(names...), many, many), nil, member.Fits}, {list(strange...), arrays(texts(names...), many, many), []api.Value{num("131071")}, member.Word}, {list(words...), arrays(anyText, many+1, -1), nil, member.Few}, {list(words...), arrays(anyText, 0, many-1), nil, member.Many},
		{object(names, words...), objects(closed), nil, member.Fits}, {object(names[:many-1], words[:many-1]...), objects(closed), []api.Value{last}, member.Lacks}, {object(names, append(slices.Clone(words[:many-1]), num("1"))...), objects(closed), []api.Value{last}, member.Kind}, {object(names, words...), objects(open), nil, member.Fits}, {object(nil), objects(open), nil, member.Fits},
		{one, objects(alternatives...), nil, member.Fits}, {object(names[many-1:], words[0]), objects(alternatives...), nil, member.NoneOf}, {object(names, words...), objects(objOf(texts(names...), nil)), nil, member.Fits}, {object(names, strange...), objects(objOf(texts(names...), nil)), []api.Value{last}, member.Word},
	} {
		in, e := member.In(c.v, c.a)
		way, why, f := member.Why(c.v, c.a)
		if in != (c.reason == member.Fits) || e != api.OK || !alikeWays(way, c.way) || why != c.reason || f != api.OK {
			t.Errorf("%d: In = %v, %d, Why = %s, %d, %d", i, in, e, short(way), why, f)
		}
	}
}

// FuzzAny holds all calls to the words, on values and types that are drawn by the bytes.
func FuzzAny(f *testing.F) {
	for _, s := range []string{"", "\x01\x00\x01\x02\x00\x03\x04\x01\x02\x01\x02\x00\x02\x01\x01\x01\x02", "\x02\x01\x01\x01\x01\x01\x00\x01\x00\x02\x07\x05\x04\x03\x02\x01\x06\x05\x04\x03\x02\x01"} {
		f.Add([]byte(s))
	}
	f.Fuzz(func(t *testing.T, data []byte) {
		pick := specimen.Picks(data)
		a := specimen.DrawnType(pick, 4)
		v, ok := specimen.DrawnOf(a, pick, specimen.Kinds()...)
		if ok {
			is(t, v, a, nil, member.Fits)
		}
		for _, of := range []api.Type{a, specimen.Single(a)} {
			check(t, nudged(v, pick), of)
			check(t, specimen.Drawn(pick, 4), of)
		}
		refused(t, specimen.Spoilt(v, pick), a)
		refused(t, v, specimen.SpoiltType(a, pick))
	})
}
