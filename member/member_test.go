package member_test

import (
	"math"
	"slices"
	"strconv"
	"strings"
	"testing"

	"hallmark/api"
	"hallmark/member"
	"hallmark/path"
	"hallmark/shape"
	"hallmark/specimen"
)

// check holds In and Why to the words and to each other, and to the rules of memory.
func check(t *testing.T, v api.Value, a api.Type) {
	t.Helper()
	way, reason := whyOf(v, a)
	is(t, v, a, way, reason)
}

// is holds In and Why to what is written out, and to the rules of memory.
func is(t *testing.T, v api.Value, a api.Type, way []api.Value, reason int) {
	t.Helper()
	given, of := specimen.Roomy(v), specimen.RoomyType(a)
	in, e := member.In(given, of)
	p, why, f := member.Why(given, of)
	if in != (reason == member.Fits) || e != api.OK {
		t.Errorf("In(%s, %s) = %v, %d", short(v), short(a), in, e)
	}
	if !alikeWays(p, way) || why != reason || f != api.OK {
		t.Errorf("Why(%s, %s) = %s, %d, %d, want %s, %d", short(v), short(a), short(p), why, f, short(way), reason)
	}
	if !specimen.Untouched(given, v) || !specimen.UntouchedType(of, a) {
		t.Errorf("what was given was changed: %s, %s", short(v), short(a))
	}
	again, _, _ := member.Why(given, of)
	own := specimen.PlacesOf(list(p...))
	if !own.Apart(specimen.PlacesOf(given, list(again...)), specimen.PlacesOfTypes(of)) {
		t.Errorf("Why(%s, %s): the way's memory isn't its own", short(v), short(a))
	}
	checkLeads(t, v, p, why)
}

// checkLeads: the way leads to something in the value, but where something is lacking: there all steps but the last do, and the last isn't there.
func checkLeads(t *testing.T, v api.Value, way []api.Value, reason int) {
	t.Helper()
	there := way
	if reason == member.Lacks {
		there = way[:len(way)-1]
	}
	part, ok := ledOf(v, there)
	got, e := path.Get(v, there)
	if !ok || e != api.OK || !specimen.Alike(part, got) {
		t.Errorf("%s: the way %s leads to %s, %d", short(v), short(way), short(got), e)
	}
	if reason != member.Lacks {
		return
	}
	name := way[len(way)-1]
	if part.Kind != api.Object || name.Kind != api.Text || slices.Contains(part.Keys, name.Text) {
		t.Errorf("%s lacks %s: %s", short(v), short(name), short(part))
	}
}

// refused holds In and Why to ErrShape.
func refused(t *testing.T, v api.Value, a api.Type) {
	t.Helper()
	given, of := specimen.Roomy(v), specimen.RoomyType(a)
	if in, e := member.In(given, of); in || e != api.ErrShape {
		t.Errorf("In(%s, %s) = %v, %d", short(v), short(a), in, e)
	}
	if p, why, e := member.Why(given, of); len(p) != 0 || why != 0 || e != api.ErrShape {
		t.Errorf("Why(%s, %s) = %s, %d, %d", short(v), short(a), short(p), why, e)
	}
	if !specimen.Untouched(given, v) || !specimen.UntouchedType(of, a) {
		t.Errorf("what was given was changed: %s, %s", short(v), short(a))
	}
}

// room is a value and a type around others, and the way in; where there are alternatives nothing is told of what is inside.
type room struct {
	v      api.Value
	a      api.Type
	way    string
	closed bool
}

// around are rooms in which the value is held against the type, and all else is right.
func around(v api.Value, a api.Type) []room {
	one, ab, other := num("1"), []string{"a", "b"}, objOf(never, []string{"c!"}, every)
	field := objOf(never, []string{"a"}, a)
	out := []room{
		{object(ab[:1], v), objects(field), `["a"]`, false},
		{object(ab, one, v), objects(objOf(anyNumber, []string{"b"}, a)), `["b"]`, false},
		{object(ab, v, one), objects(objOf(never, []string{"a", "b!"}, a, anyNumber)), `["a"]`, false},
		{object(ab, one, v), objects(objOf(a, []string{"a!"}, every)), `["b"]`, false},
		{object([]string{""}, v), objects(objOf(a, nil)), `[""]`, false},
		{list(one, one, object(ab[:1], list(object(ab, one, v)))), arrays(api.Type{Nums: anyNumber.Nums, Objects: []api.Obj{objOf(arrays(objects(objOf(a, []string{"a!"}, every)), 1, 1), nil)}}, 0, -1), `[2,"a",0,"b"]`, false},
		{object(ab[:1], v), objects(field, other), `[]`, true},
		{object(ab[:1], v), objects(other, other, field), `[]`, true},
		{list(object(ab, one, object(ab[:1], v))), arrays(objects(objOf(objects(other, field), []string{"a"}, every)), 1, 1), `[0,"b"]`, true},
	}
	w, some := specimen.DrawnOf(a, specimen.Picks(nil), specimen.Kinds()...)
	if !some { // no array has such an item
		return out
	}
	return append(out,
		room{list(v), arrays(a, 1, 1), `[0]`, false},
		room{list(v, v, v), arrays(a, 0, -1), `[0]`, false},
		room{list(w, w, v, w), arrays(a, 2, 4), `[2]`, false},
		room{list(list(), list(w), list(w, v)), arrays(arrays(a, 0, 2), 3, 3), `[2,1]`, false},
		room{object(ab, list(w), v), objects(objOf(a, []string{"a!"}, arrays(a, 1, 1))), `["b"]`, false},
		room{object(ab, v, v), objects(objOf(never, []string{"a!", "b!"}, a, a)), `["a"]`, false},
	)
}

// isEverywhere is likewise, at the top and inside others.
func isEverywhere(t *testing.T, v api.Value, a api.Type, way string, reason int) {
	t.Helper()
	is(t, v, a, js(way).Items, reason)
	check(t, v, a)
	for _, r := range around(v, a) {
		in := js(r.way).Items
		switch {
		case reason == member.Fits:
			is(t, r.v, r.a, nil, member.Fits)
		case r.closed:
			is(t, r.v, r.a, in, member.NoneOf)
		default:
			is(t, r.v, r.a, append(in, js(way).Items...), reason)
		}
		check(t, r.v, r.a)
	}
}

// row is a value, as a text of JSON, and why it isn't of a type.
type row struct {
	v      string
	a      api.Type
	way    string
	reason int
}

func areEverywhere(t *testing.T, rows []row) {
	t.Helper()
	for _, r := range rows {
		isEverywhere(t, js(r.v), r.a, r.way, r.reason)
	}
}

// fit are rows of values that are of a type.
func fit(a api.Type, values ...string) []row {
	var out []row
	for _, v := range values {
		out = append(out, row{v, a, `[]`, member.Fits})
	}
	return out
}

// differ are rows of values that aren't of a type for a reason at the top.
func differ(a api.Type, reason int, values ...string) []row {
	var out []row
	for _, v := range values {
		out = append(out, row{v, a, `[]`, reason})
	}
	return out
}

// sorts are the types of the chapter's examples.
func sorts() (n, w, l, o api.Type) {
	n, w = nums("1", "3"), texts("a", "b")
	return n, w, arrays(n, 1, 2), objects(objOf(null, []string{"k!", "n"}, w, n))
}

func TestP10_1Examples(t *testing.T) {
	n, _, l, o := sorts()
	for _, c := range []struct {
		v    string
		a    api.Type
		want bool
	}{
		{`2`, n, true}, {`4`, n, false}, {`"a"`, n, false},
		{`[1,3]`, l, true}, {`[]`, l, false}, {`[1,2,3]`, l, false}, {`[1,9]`, l, false},
		{`{"k":"a"}`, o, true}, {`{"k":"b","n":1,"z":null}`, o, true}, {`{"n":1}`, o, false}, {`{"k":"a","z":0}`, o, false},
	} {
		if got, e := member.In(js(c.v), c.a); got != c.want || e != api.OK {
			t.Errorf("In(%s, %v) = %v, %d", c.v, c.a, got, e)
		}
	}
	if got, e := member.In(kind(8), n); got || e != api.ErrShape {
		t.Errorf("In of the kind 8 = %v, %d", got, e)
	}
}

func TestP10_2Examples(t *testing.T) {
	n, w, l, o := sorts()
	two := objects(o.Objects[0], api.Obj{})
	areEverywhere(t, []row{
		{`4`, n, `[]`, member.Bound}, {`"a"`, n, `[]`, member.Kind}, {`"c"`, w, `[]`, member.Word}, {`[]`, l, `[]`, member.Few}, {`[1,2,3]`, l, `[]`, member.Many},
		{`[1,9]`, l, `[1]`, member.Bound}, {`[9,"x"]`, l, `[0]`, member.Bound},
		{`{"n":7}`, o, `["k"]`, member.Lacks}, {`{"k":"a","n":7,"z":0}`, o, `["n"]`, member.Bound}, {`{"k":5}`, o, `["k"]`, member.Kind}, {`{"k":"a"}`, o, `[]`, member.Fits},
		{`{}`, two, `[]`, member.Fits}, {`{"k":1}`, two, `[]`, member.NoneOf}, {`null`, never, `[]`, member.Kind},
	})
	for _, v := range specimen.WellShaped(random(2), 100) {
		is(t, v, every, nil, member.Fits)
		is(t, v, never, nil, member.Kind)
	}
	refused(t, kind(8), n)
}

// The numbers of the reasons are the chapter's.
func TestP10_2Reasons(t *testing.T) {
	got := []int{member.Fits, member.Kind, member.Bound, member.Word, member.Few, member.Many, member.Lacks, member.NoneOf}
	for i, reason := range got {
		if reason != i {
			t.Errorf("the reason %d is %d", i, reason)
		}
	}
}

// Values of each kind, and types of each row of kinds: as wide as they are, and narrow ones.
func TestP10_1P10_2Kinds(t *testing.T) {
	values := []string{`null`, `false`, `true`, `1`, `"a"`, `[null]`, `{"a":null}`}
	for i := range 128 {
		wide := shape.OfKinds(uint8(i))
		narrow := api.Type{Null: i&1 > 0, False: i&2 > 0, True: i&4 > 0}
		if i>>api.Number%2 == 1 {
			narrow.Nums = []api.Span{{Low: "1", High: "1"}}
		}
		if i>>api.Text%2 == 1 {
			narrow.Texts = []string{"a"}
		}
		if i>>api.Array%2 == 1 {
			narrow.Arrays = arrays(null, 1, 1).Arrays
		}
		if i>>api.Object%2 == 1 {
			narrow.Objects = []api.Obj{objOf(never, []string{"a!"}, null)}
		}
		for k, v := range values {
			reason := member.Kind
			if i>>k%2 == 1 {
				reason = member.Fits
			}
			is(t, js(v), wide, nil, reason)
			isEverywhere(t, js(v), narrow, `[]`, reason)
		}
	}
}

// All: everything is of it, at the top and inside.
func TestP10_1P10_2All(t *testing.T) {
	for _, v := range []string{`null`, `false`, `true`, `-5`, `""`, `[]`, `[1,[2]]`, `{}`, `{"a":{"b":[]}}`} {
		isEverywhere(t, js(v), every, `[]`, member.Fits)
	}
}

func TestP10_1P10_2Bounds(t *testing.T) {
	const huge, more, less = "123456789012345678901234567890", "123456789012345678901234567891", "123456789012345678901234567889"
	for _, c := range []struct {
		low, high string
		in, out   []string
	}{
		{"1", "3", []string{"1", "2", "3"}, []string{"0", "4", "-1", "-2", "10", "30", "20", huge, "-" + huge}},
		{"5", "5", []string{"5"}, []string{"4", "6", "-5", "50", "55"}},
		{"-3", "-1", []string{"-3", "-2", "-1"}, []string{"-4", "0", "1", "2", "-10", "-30", "-20"}},
		{"-10", "9", []string{"-10", "-9", "0", "-1", "9", "8"}, []string{"-11", "10", "-100", "90"}},
		{"0", "0", []string{"0"}, []string{"1", "-1"}},
		{"", "", []string{"0", "-1", huge, "-" + huge}, nil},
		{"", "5", []string{"5", "4", "0", "-5", "-6", "-" + huge}, []string{"6", "10", "50", huge}},
		{"", "-5", []string{"-5", "-6", "-50", "-" + huge}, []string{"-4", "0", "5", "4", huge}},
		{"5", "", []string{"5", "6", "10", huge}, []string{"4", "0", "-5", "-6", "-" + huge}},
		{"-5", "", []string{"-5", "-4", "0", "6", huge}, []string{"-6", "-10", "-" + huge}},
		{"9223372036854775807", "9223372036854775808", []string{"9223372036854775807", "9223372036854775808"}, []string{"9223372036854775806", "9223372036854775809", "-9223372036854775808", "0", huge}},
		{"-9223372036854775809", "-9223372036854775808", []string{"-9223372036854775809", "-9223372036854775808"}, []string{"-9223372036854775810", "-9223372036854775807", "9223372036854775807"}},
		{huge, huge, []string{huge}, []string{more, less, "-" + huge, "0", huge + "0"}},
		{"-" + more, less, []string{"-" + more, "-" + huge, "0", less}, []string{huge, more, "-" + more + "0"}},
		{more, "", []string{more, more + "0"}, []string{huge, less, "9"}},
	} {
		areEverywhere(t, append(fit(nums(c.low, c.high), c.in...), differ(nums(c.low, c.high), member.Bound, c.out...)...))
	}
}

func TestP10_1P10_2Texts(t *testing.T) {
	all := []string{`""`, `"a"`, `"b"`, `"aa"`, `"é"`, `"A"`, `"a\u0000"`, `"null"`, `"1"`, `"\ud800\udc00"`, `"\uffff"`}
	areEverywhere(t, fit(anyText, all...))
	for i, one := range all {
		a := texts(js(one).Text)
		areEverywhere(t, fit(a, one))
		areEverywhere(t, differ(a, member.Word, slices.Concat(all[:i], all[i+1:])...))
	}
	row := []string{"", "a", "b", "c", "\uFFFF", "\U00010000"}
	areEverywhere(t, fit(texts(row...), `""`, `"a"`, `"b"`, `"c"`, `"\uffff"`, `"\ud800\udc00"`))
	areEverywhere(t, differ(texts(row...), member.Word, `"aa"`, `"d"`, `" "`, `"\ufffe"`, `"\ud800\udc01"`))
	for many := 1; many < 20; many++ {
		var names []string
		for i := range many {
			names = append(names, string(rune('b'+2*i)))
		}
		for i := range 2*many + 1 {
			check(t, text(string(rune('a'+i))), texts(names...))
		}
	}
}

func TestP10_1P10_2Lengths(t *testing.T) {
	for least := range 4 {
		for most := -1; most <= 5; most++ {
			a := arrays(null, least, most)
			if most == 0 {
				a = arrays(never, least, most)
			}
			if most >= 0 && most < least {
				refused(t, list(), a)
				continue
			}
			for many := range 7 {
				reason := member.Fits
				switch {
				case many < least:
					reason = member.Few
				case most >= 0 && many > most:
					reason = member.Many
				}
				isEverywhere(t, list(make([]api.Value, many)...), a, `[]`, reason)
			}
		}
	}
	areEverywhere(t, []row{
		{`[]`, arrays(null, 1, -1), `[]`, member.Few}, {`[1]`, arrays(null, 2, 2), `[]`, member.Few}, {`[1,1,1]`, arrays(null, 2, 2), `[]`, member.Many}, {`[1]`, arrays(never, 0, 0), `[]`, member.Many}, {`[]`, arrays(never, 0, 0), `[]`, member.Fits},
		{`[[],[]]`, arrays(arrays(never, 0, 0), 2, 2), `[]`, member.Fits}, {`[[],[[]]]`, arrays(arrays(never, 0, 0), 2, 2), `[1]`, member.Many},
	})
	is(t, js(`[1]`), arrays(null, math.MaxInt, -1), nil, member.Few)
	is(t, js(`[1]`), arrays(null, math.MaxInt, math.MaxInt), nil, member.Few)
	is(t, js(`[1]`), arrays(anyNumber, 0, math.MaxInt), nil, member.Fits)
}

// The first of several items that aren't of the type is told, each for a reason of its own.
func TestP10_2FirstItem(t *testing.T) {
	a := api.Type{True: true, Nums: []api.Span{{Low: "1", High: "3"}}, Texts: []string{"a"}, Arrays: arrays(null, 1, 2).Arrays, Objects: []api.Obj{objOf(anyNumber, []string{"k!", "l!"}, null, anyText)}}
	right := []string{`true`, `2`, `"a"`, `[null]`, `{"k":null,"l":"","z":5}`}
	wrong := []row{
		{`null`, a, `[]`, member.Kind}, {`4`, a, `[]`, member.Bound}, {`"b"`, a, `[]`, member.Word}, {`[]`, a, `[]`, member.Few}, {`[null,null,null]`, a, `[]`, member.Many}, {`[null,7]`, a, `[1]`, member.Kind},
		{`{"l":""}`, a, `["k"]`, member.Lacks}, {`{"k":5,"l":5}`, a, `["k"]`, member.Kind}, {`{"k":null,"l":"","z":""}`, a, `["z"]`, member.Kind},
	}
	areEverywhere(t, fit(a, right...))
	areEverywhere(t, wrong)
	for i, first := range wrong {
		for _, second := range wrong {
			for ahead := range 4 {
				items := append(slices.Repeat(right[i%len(right):i%len(right)+1], ahead), first.v, right[0], second.v)
				way := append([]api.Value{num(strconv.Itoa(ahead))}, js(first.way).Items...)
				is(t, js("["+strings.Join(items, ",")+"]"), arrays(a, 0, -1), way, first.reason)
			}
		}
	}
	long := list(slices.Repeat([]api.Value{num("1")}, 120)...)
	for _, at := range []int{0, 9, 10, 99, 100, 119} {
		v := list(slices.Clone(long.Items)...)
		v.Items[at] = text("a")
		is(t, v, arrays(anyNumber, 0, -1), []api.Value{num(strconv.Itoa(at))}, member.Kind)
	}
}

func TestP10_1P10_2Alternatives(t *testing.T) {
	closed := func(name string, of api.Type) api.Obj { return objOf(never, []string{name + "!"}, of) }
	a, b, c := closed("a", null), closed("b", anyNumber), closed("c", arrays(null, 0, 1))
	for _, order := range [][]api.Obj{{a, b}, {b, a}, {a, b, c}, {c, b, a}, {b, a, c}, {a, a, b, b, c}} {
		areEverywhere(t, fit(objects(order...), `{"a":null}`, `{"b":5}`))
		areEverywhere(t, differ(objects(order...), member.NoneOf, `{}`, `{"a":1}`, `{"b":null}`, `{"a":null,"b":5}`, `{"z":null}`, `{"c":[1]}`, `{"c":[null,null]}`))
		areEverywhere(t, differ(objects(order...), member.Kind, `null`, `[]`, `"a"`))
	}
	areEverywhere(t, []row{
		{`{"c":[null]}`, objects(a, b, c), `[]`, member.Fits}, {`{"c":[null]}`, objects(a, b), `[]`, member.NoneOf}, {`{"a":1}`, objects(a, a), `[]`, member.NoneOf}, {`{"a":1}`, objects(a), `["a"]`, member.Kind}, {`{}`, objects(a), `["a"]`, member.Lacks}, {`{}`, objects(a, a), `[]`, member.NoneOf},
		{`{}`, objects(api.Obj{}), `[]`, member.Fits}, {`{"a":1}`, objects(api.Obj{}), `["a"]`, member.Kind}, {`{"a":1}`, objects(api.Obj{}, api.Obj{}), `[]`, member.NoneOf}, {`{"a":1}`, objects(api.Obj{}, objOf(every, nil)), `[]`, member.Fits},
		{`{"x":{"a":1}}`, objects(objOf(objects(a, b), nil)), `["x"]`, member.NoneOf}, {`{"x":{"a":null},"y":{"b":1},"z":{"c":1}}`, objects(objOf(objects(a, b), nil)), `["z"]`, member.NoneOf}, {`[{"a":null},{"b":[]}]`, arrays(objects(a, b), 0, -1), `[1]`, member.NoneOf},
		{`{"x":{"y":{"a":1}}}`, objects(closed("x", objects(closed("y", objects(a, b)), c)), c), `[]`, member.NoneOf}, {`{"x":{"y":{"a":1}}}`, objects(closed("x", objects(closed("y", objects(a, b)), c))), `["x"]`, member.NoneOf}, {`{"x":{"y":{"a":1}}}`, objects(closed("x", objects(closed("y", objects(a, b))))), `["x","y"]`, member.NoneOf},
	})
}

// Of several names that are lacking the first is told; fields that aren't of their types come behind.
func TestP10_1P10_2Lacks(t *testing.T) {
	a := objects(objOf(never, []string{"a", "b!", "c", "d!", "e!"}, anyNumber, anyNumber, anyNumber, anyNumber, anyNumber))
	areEverywhere(t, []row{
		{`{}`, a, `["b"]`, member.Lacks}, {`{"b":1}`, a, `["d"]`, member.Lacks}, {`{"d":1}`, a, `["b"]`, member.Lacks}, {`{"e":1}`, a, `["b"]`, member.Lacks}, {`{"b":1,"d":1}`, a, `["e"]`, member.Lacks}, {`{"b":1,"e":1}`, a, `["d"]`, member.Lacks}, {`{"d":1,"e":1}`, a, `["b"]`, member.Lacks},
		{`{"b":1,"d":1,"e":1}`, a, `[]`, member.Fits}, {`{"a":1,"b":1,"c":1,"d":1,"e":1}`, a, `[]`, member.Fits}, {`{"a":1,"c":1}`, a, `["b"]`, member.Lacks}, {`{"a":null,"b":null,"z":null}`, a, `["d"]`, member.Lacks}, {`{"a":null}`, a, `["b"]`, member.Lacks}, {`{"a":1,"aa":1,"c":1,"d":1,"e":1,"f":1}`, a, `["b"]`, member.Lacks},
		{`{}`, objects(objOf(every, []string{"!"}, every)), `[""]`, member.Lacks}, {`{"":null}`, objects(objOf(never, []string{"!"}, every)), `[]`, member.Fits}, {`{"a":1}`, objects(objOf(every, []string{"é!"}, every)), `["é"]`, member.Lacks}, {`{"\uffff":1}`, objects(objOf(every, []string{"\U00010000!"}, every)), `["\ud800\udc00"]`, member.Lacks},
		{`{"a":{}}`, objects(objOf(never, []string{"a!"}, objects(objOf(never, []string{"b!"}, null)))), `["a","b"]`, member.Lacks}, {`[{"b":1},{"b":null},{}]`, arrays(objects(objOf(never, []string{"b!"}, every)), 0, -1), `[2,"b"]`, member.Lacks}, {`{"a":null}`, objects(objOf(never, []string{"a!"}, null)), `[]`, member.Fits},
	})
}

// Of several fields that aren't of their types the first in the object's order is told, named ones and others.
func TestP10_1P10_2Fields(t *testing.T) {
	a := objects(objOf(anyText, []string{"b", "d!", "f"}, null, nums("0", "9"), never))
	rest := objects(objOf(never, []string{"b", "d!"}, null, every))
	deep := api.Type{Nums: anyNumber.Nums, Objects: []api.Obj{objOf(arrays(texts("b"), 0, -1), nil)}}
	areEverywhere(t, []row{
		{`{"a":"","b":null,"c":"","d":0,"e":""}`, a, `[]`, member.Fits}, {`{"d":5}`, a, `[]`, member.Fits}, {`{"a":1,"b":1,"c":1,"d":10}`, a, `["a"]`, member.Kind}, {`{"b":1,"c":1,"d":10}`, a, `["b"]`, member.Kind}, {`{"c":1,"d":10}`, a, `["c"]`, member.Kind}, {`{"d":10,"e":1}`, a, `["d"]`, member.Bound}, {`{"d":5,"e":1,"f":1}`, a, `["e"]`, member.Kind},
		{`{"d":5,"f":""}`, a, `["f"]`, member.Kind}, {`{"d":5,"f":null}`, a, `["f"]`, member.Kind}, {`{"b":"","d":1}`, a, `["b"]`, member.Kind}, {`{"":null,"d":1}`, a, `[""]`, member.Kind}, {`{"d":1,"dd":1}`, a, `["dd"]`, member.Kind}, {`{"d":1,"z":null}`, a, `["z"]`, member.Kind},
		{`{"d":1}`, rest, `[]`, member.Fits}, {`{"b":null,"d":[]}`, rest, `[]`, member.Fits}, {`{"c":null,"d":1}`, rest, `["c"]`, member.Kind}, {`{"a":null,"b":1,"d":1}`, rest, `["a"]`, member.Kind}, {`{"b":1,"d":1,"e":1}`, rest, `["b"]`, member.Kind},
		{`{"x":[1,{"y":["a"]}]}`, objects(objOf(arrays(deep, 0, -1), nil)), `["x",1,"y",0]`, member.Word}, {`{"x":[1,{"y":["b","b"],"z":["b",[]]}]}`, objects(objOf(arrays(deep, 0, -1), nil)), `["x",1,"z",1]`, member.Kind},
	})
}
