package value_test

import (
	"iter"
	"math"
	"slices"
	"strings"
	"sync"
	"testing"

	"hallmark/api"
	"hallmark/specimen"
	"hallmark/value"
)

func TestP3_1WellShaped(t *testing.T) {
	for _, v := range wellShaped(3000) {
		if !formedOf(v) || !value.Formed(v) {
			t.Errorf("Formed(%v) = %v, by the words %v", v, value.Formed(v), formedOf(v))
		}
	}
	rising := object([]string{"", "A", "Z", "a", "a\x00", "aa", "ab", "b", "z", "~", "é", "\uFFFF", "\U00010000"})
	rising.Items = make([]api.Value, len(rising.Keys))
	if !value.Formed(rising) {
		t.Error("keys that rise by their bytes")
	}
}

func TestP3_1Misshapen(t *testing.T) {
	for _, v := range wrong() {
		if formedOf(v) || value.Formed(v) {
			t.Errorf("Formed(%v) = %v, by the words %v", v, value.Formed(v), formedOf(v))
		}
	}
}

func TestP3_1Examples(t *testing.T) {
	null := api.Value{}
	for i, v := range []api.Value{null, num("07"), {Num: "1"}, object([]string{"b", "a"}, null, null), kind(7)} {
		if value.Formed(v) != (i == 0) {
			t.Errorf("Formed(%v) = %v", v, i != 0)
		}
	}
}

// A list that is nil and one that is empty are no different, whatever the kind.
func TestP3_1EmptyLists(t *testing.T) {
	for _, v := range []api.Value{{}, kind(1), kind(2), num("5"), text("x"), list(), object(nil)} {
		v.Items, v.Keys = make([]api.Value, 0, 3), []string{}
		if !value.Formed(v) {
			t.Errorf("Formed(%v)", v)
		}
	}
}

func checkCmp(t *testing.T, a, b api.Value) {
	t.Helper()
	want := orderOf(a, b)
	if got := value.Cmp(a, b); got != want {
		t.Errorf("Cmp(%v, %v) = %d, want %d", a, b, got, want)
	}
	if got := value.Same(a, b); got != (want == 0) || got != alike(a, b) {
		t.Errorf("Same(%v, %v) = %v", a, b, got)
	}
}

func TestP3_2Cmp(t *testing.T) {
	all := wellShaped(300)
	for _, a := range all {
		for _, b := range all {
			checkCmp(t, a, b)
		}
	}
}

func TestP3_2Examples(t *testing.T) {
	for _, row := range []struct {
		a, b string
		want int
	}{
		{`null`, `false`, -1}, {`true`, `0`, -1}, {`-10`, `9`, -1}, {`"ab"`, `"b"`, -1}, {`"a"`, `"ab"`, -1},
		{`[1,2]`, `[1,10]`, -1}, {`[]`, `{}`, -1}, {`{"a":2}`, `{"b":1}`, -1}, {`{"a":2}`, `{"a":1}`, 1},
		{`false`, `true`, -1}, {`9`, `""`, -1}, {`"z"`, `[]`, -1}, {`[{}]`, `{}`, -1}, {`-10`, `-9`, -1}, {`99`, `100`, -1}, {`[]`, `[null]`, -1}, {`[2]`, `[10,0]`, -1},
		{`{}`, `{"":null}`, -1}, {`{"a":1}`, `{"a":0,"b":0}`, -1}, {`{"a":0,"b":0}`, `{"b":0}`, -1}, {`{"a":1,"c":9}`, `{"a":2,"c":0}`, -1}, {`{"a":1,"c":0}`, `{"a":1,"c":1}`, -1},
		{`"\uFFFF"`, `"\uD800\uDC00"`, -1}, {`"Z"`, `"a"`, -1}, {`"z"`, `"é"`, -1}, {`{"a":[1,{"b":2}]}`, `{"a":[1,{"b":2}]}`, 0},
	} {
		a, b := js(row.a), js(row.b)
		if x, y := value.Cmp(a, b), value.Cmp(b, a); x != row.want || y != -row.want {
			t.Errorf("%s and %s: %d, %d", row.a, row.b, x, y)
		}
		checkCmp(t, a, b)
		checkCmp(t, b, a)
	}
}

// Lists that are nil and empty ones are the same.
func TestP3_2EmptyLists(t *testing.T) {
	for _, v := range []api.Value{{}, kind(1), kind(2), num("5"), text("x"), list(), object(nil)} {
		w := v
		w.Items, w.Keys = make([]api.Value, 0, 3), []string{}
		if value.Cmp(v, w) != 0 || value.Cmp(w, v) != 0 || !value.Same(v, w) {
			t.Errorf("%v isn't the same as %v", v, w)
		}
	}
}

func TestP3_3WeightAndDepth(t *testing.T) {
	for _, v := range wellShaped(3000) {
		if got := value.Weight(v); got != weightOf(v) {
			t.Errorf("Weight(%v) = %d, want %d", v, got, weightOf(v))
		}
		if got := value.Depth(v); got != depthOf(v) {
			t.Errorf("Depth(%v) = %d, want %d", v, got, depthOf(v))
		}
	}
}

func TestP3_3Examples(t *testing.T) {
	for _, row := range []struct {
		v             string
		weight, depth int
	}{
		{`null`, 1, 0}, {`-12`, 3, 0}, {`"ab"`, 3, 0}, {`[]`, 1, 1}, {`{"ab":null}`, 5, 1}, {`7`, 2, 0}, {`[[],{"a":[1]}]`, 8, 3},
		{`false`, 1, 0}, {`true`, 1, 0}, {`0`, 2, 0}, {`-1`, 2, 0}, {`""`, 1, 0}, {`"é"`, 3, 0}, {`{}`, 1, 1}, {`{"":null}`, 3, 1}, {`[null,[[]],null]`, 5, 3}, {`{"a":{"b":{}},"c":1}`, 11, 3},
	} {
		if w, d := value.Weight(js(row.v)), value.Depth(js(row.v)); w != row.weight || d != row.depth {
			t.Errorf("%s weighs %d, is %d deep", row.v, w, d)
		}
	}
}

func TestP3_3Name(t *testing.T) {
	for k, want := range []string{"null", "boolean", "boolean", "number", "string", "array", "object"} {
		if got := value.Name(k); got != want {
			t.Errorf("Name(%d) = %q", k, got)
		}
	}
	for _, k := range []int{-1, 7, 8, 100, math.MaxInt, math.MinInt} {
		if got := value.Name(k); got != "" {
			t.Errorf("Name(%d) = %q", k, got)
		}
	}
}

// What is no value is true too, whatever else stands in it.
func TestP3_3True(t *testing.T) {
	for k, want := range map[int]bool{api.Null: false, api.False: false, api.True: true, api.Number: true, api.Text: true, api.Array: true, api.Object: true, 7: true, 9: true, -1: true, math.MinInt: true, math.MaxInt: true} {
		for _, v := range append(filled(kind(k)), kind(k)) {
			if got := value.True(v); got != want {
				t.Errorf("True(%v) = %v", v, got)
			}
		}
	}
}

// made is a call that makes a value out of two, or of one, and a key; and what the words say of it.
type made struct {
	name string
	do   func(a, b api.Value, key string) (api.Value, api.Errno)
	want func(a, b api.Value, key string) (api.Value, api.Errno)
}

// unless refuses where something is wrong.
func unless(refused bool, v api.Value) (api.Value, api.Errno) {
	if refused {
		return api.Value{}, api.ErrShape
	}
	return v, api.OK
}

func isObject(v api.Value) bool { return v.Kind == api.Object && formedOf(v) }

var twin = made{"Twin",
	func(a, _ api.Value, _ string) (api.Value, api.Errno) { return value.Twin(a), api.OK },
	func(a, _ api.Value, _ string) (api.Value, api.Errno) { return a, api.OK },
}

// making lays the fields of two objects behind one another, whether or not they rise.
var making = made{"Make",
	func(a, b api.Value, _ string) (api.Value, api.Errno) {
		return value.Make(slices.Concat(a.Keys, b.Keys), slices.Concat(a.Items, b.Items))
	},
	func(a, b api.Value, _ string) (api.Value, api.Errno) {
		keys, items := slices.Concat(a.Keys, b.Keys), slices.Concat(a.Items, b.Items)
		right := len(keys) == len(items) && formedOf(texts(keys)) && formedOf(list(items...))
		return unless(!right, objectOf(fieldsOf(keys, items)))
	},
}

// making1 hands in the lists of one object as they are, with their spare room.
var making1 = made{"Make",
	func(a, _ api.Value, _ string) (api.Value, api.Errno) { return value.Make(a.Keys, a.Items) },
	func(a, _ api.Value, _ string) (api.Value, api.Errno) { return making.want(a, api.Value{}, "") },
}

// get tells a field that isn't there as a refusal.
var get = made{"Get",
	func(a, _ api.Value, key string) (api.Value, api.Errno) {
		v, ok := value.Get(a, key)
		if ok {
			return v, api.OK
		}
		return v, api.ErrShape
	},
	func(a, _ api.Value, key string) (api.Value, api.Errno) {
		for i := range min(len(a.Keys), len(a.Items)) {
			if a.Kind == api.Object && a.Keys[i] == key {
				return a.Items[i], api.OK
			}
		}
		return api.Value{}, api.ErrShape
	},
}

var with = made{"With",
	func(a, b api.Value, key string) (api.Value, api.Errno) { return value.With(a, key, b) },
	func(a, b api.Value, key string) (api.Value, api.Errno) {
		right := isObject(a) && formedOf(text(key)) && formedOf(b)
		return unless(!right, mergeOf(a, object([]string{key}, b)))
	},
}

var without = made{"Without",
	func(a, _ api.Value, key string) (api.Value, api.Errno) { return value.Without(a, key) },
	func(a, _ api.Value, key string) (api.Value, api.Errno) {
		return unless(!isObject(a), withoutOf(a, key))
	},
}

var merge = made{"Merge",
	func(a, b api.Value, _ string) (api.Value, api.Errno) { return value.Merge(a, b) },
	func(a, b api.Value, _ string) (api.Value, api.Errno) {
		return unless(!isObject(a) || !isObject(b), mergeOf(a, b))
	},
}

var deep = made{"Deep",
	func(a, b api.Value, _ string) (api.Value, api.Errno) { return value.Deep(a, b) },
	func(a, b api.Value, _ string) (api.Value, api.Errno) {
		return unless(!isObject(a) || !isObject(b), deepOf(a, b))
	},
}

// checkOwn refuses an answer that shares memory with arguments, or of which two lists share some.
func checkOwn(t *testing.T, what string, answer api.Value, args ...api.Value) {
	t.Helper()
	if !specimen.Own(answer, args...) {
		t.Errorf("%s: the memory of %v isn't its own", what, answer)
	}
}

// check holds a call to the words, and to the rules of memory.
func (m made) check(t *testing.T, a, b api.Value, key string) {
	t.Helper()
	x, y := roomy(a), roomy(b)
	want, code := m.want(a, b, key)
	got, e := m.do(x, y, key)
	if e != code || !alike(got, want) {
		t.Errorf("%s(%v, %v, %q) = %v, %d, want %v, %d", m.name, a, b, key, got, e, want, code)
	}
	if !untouched(x, a) || !untouched(y, b) {
		t.Errorf("%s(%v, %v, %q) changed its arguments: %v, %v", m.name, a, b, key, x, y)
	}
	checkOwn(t, m.name, got, x, y)
}

// checkAll checks a call on pairs of well shaped objects, on well shaped values, and on values that aren't.
func (m made) checkAll(t *testing.T) {
	pick := random(7)
	for range 4000 {
		m.check(t, drawnObject(pick, 3), drawnObject(pick, 3), names[pick(len(names))])
		m.check(t, drawnObject(pick, 3), drawn(pick, 3), names[pick(len(names))])
	}
	all := wellShaped(30)
	for _, a := range all {
		for _, b := range all {
			m.check(t, a, b, names[pick(len(names))])
		}
	}
	right := js(`{"a":{"b":[1]},"c":"x"}`)
	for _, v := range wrong() {
		m.check(t, v, right, "a")
		m.check(t, right, v, "a")
		m.check(t, v, right, "zz")
		m.check(t, right, v, "zz")
		m.check(t, v, v, "")
	}
	for _, key := range []string{"\xff", "\xc3", "a\x80", "\xed\xa0\x80", "a\xe2\x82"} {
		m.check(t, right, right, key)
		m.check(t, object([]string{key}, right), right, key)
		m.check(t, right, num("1"), key)
	}
}

func TestP3_4Twin(t *testing.T) { twin.checkAll(t) }

// Fields that a kind doesn't use are fields too, and lists within them are lists.
func TestP3_4TwinOfAnything(t *testing.T) {
	inner := api.Value{Kind: api.Text, Num: "x", Text: "\xff", Items: []api.Value{list(num("1")), kind(9)}, Keys: []string{"b", "a", "b"}}
	for k := -2; k < 10; k++ {
		v := api.Value{Kind: k, Num: "-0", Text: "\xc3", Items: []api.Value{inner, {Keys: []string{"\xff"}}}, Keys: []string{"z", ""}}
		twin.check(t, v, api.Value{}, "")
	}
}

// A list that stands in a value twice is two lists in its twin.
func TestMemoryOfSharedLists(t *testing.T) {
	shared := list(list(num("1"), num("2")), js(`{"a":[3]}`))
	v := object([]string{"a", "b"}, shared, shared)
	checkOwn(t, "Twin", value.Twin(list(v, v)), v)
	for _, m := range []made{twin, making, making1, get, with, without, merge, deep} {
		m.check(t, v, v, "a")
		got, e := m.do(v, v, "b")
		if e != api.OK {
			t.Errorf("%s: %d", m.name, e)
		}
		checkOwn(t, m.name, got, v)
	}
	for _, item := range value.Each(list(v, v)) {
		checkOwn(t, "Each", item, v)
	}
}

func TestP3_5Make(t *testing.T) {
	making.checkAll(t)
	making1.checkAll(t)
}

func TestP3_5Examples(t *testing.T) {
	one, two, three := num("1"), num("2"), num("3")
	got, e := value.Make([]string{"b", "a", "b"}, []api.Value{one, two, three})
	if e != api.OK || !alike(got, js(`{"a":2,"b":3}`)) {
		t.Errorf("Make(b a b; 1 2 3) = %v, %d", got, e)
	}
	got, e = value.Make(nil, nil)
	if e != api.OK || !alike(got, object(nil)) {
		t.Errorf("Make of nothing = %v, %d", got, e)
	}
	got, e = value.Make([]string{}, []api.Value{})
	if e != api.OK || !alike(got, object(nil)) {
		t.Errorf("Make of empty lists = %v, %d", got, e)
	}
}

func TestP3_5Refusals(t *testing.T) {
	one, bad := num("1"), num("07")
	for _, row := range []struct {
		keys  []string
		items []api.Value
	}{
		{[]string{"a"}, nil}, {nil, []api.Value{one}}, {[]string{"a", "b"}, []api.Value{one}}, {[]string{"a"}, []api.Value{one, one}}, {[]string{"\xff"}, []api.Value{one}},
		{[]string{"a", "\xc3", "b"}, []api.Value{one, one, one}}, {[]string{"a", "a"}, []api.Value{bad, one}}, {[]string{"a", "a"}, []api.Value{one, bad}}, {[]string{"a"}, []api.Value{list(list(bad))}},
	} {
		if got, e := value.Make(row.keys, row.items); e != api.ErrShape || !alike(got, api.Value{}) {
			t.Errorf("Make(%q, %v) = %v, %d", row.keys, row.items, got, e)
		}
	}
}

// Many keys, each thrice, in an order far from rising: the last one of each counts.
func TestP3_5MakeOfMany(t *testing.T) {
	const many = 20000
	keys, items, want := make([]string, many), make([]api.Value, many), map[string]api.Value{}
	for i := range many {
		keys[i] = names[i*7919%len(names)] + repeated("x", i*31%61) + repeated("y", i*17%53)
		items[i] = list(text(keys[i]), num("1"+repeated("0", i%9)))
		want[keys[i]] = items[i]
	}
	if got, e := value.Make(keys, items); e != api.OK || !alike(got, objectOf(want)) {
		t.Errorf("Make of %d keys: %d", many, e)
	}
}

func TestP3_6Get(t *testing.T) { get.checkAll(t) }

func TestP3_6Examples(t *testing.T) {
	one, two := num("1"), num("2")
	for _, row := range []struct {
		v    api.Value
		key  string
		want api.Value
		ok   bool
	}{
		{js(`{"a":1}`), "a", one, true}, {js(`{"a":1}`), "b", api.Value{}, false}, {js(`[1]`), "a", api.Value{}, false}, {js(`{"a":null}`), "a", api.Value{}, true},
		{object([]string{"b", "a", "b"}, one, num("3"), two), "b", one, true}, {object([]string{"z", "a"}, one, two), "a", two, true}, {object([]string{"c", "b", "a"}, one, one, two), "a", two, true},
		{object([]string{"a", "b"}, one), "b", api.Value{}, false}, {object([]string{"a", "b"}, one), "a", one, true}, {object([]string{"a"}, one, two), "a", one, true}, {object([]string{"a"}), "a", api.Value{}, false},
		{object([]string{"\xff"}, one), "\xff", one, true}, {object([]string{"a"}, num("07")), "a", num("07"), true}, {object([]string{""}, one), "", one, true}, {object(nil), "", api.Value{}, false},
		{api.Value{Kind: 5, Keys: []string{"a"}, Items: []api.Value{one}}, "a", api.Value{}, false}, {api.Value{Kind: 7, Keys: []string{"a"}, Items: []api.Value{one}}, "a", api.Value{}, false},
		{api.Value{Kind: 6, Num: "1", Text: "x", Keys: []string{"a"}, Items: []api.Value{one}}, "a", one, true}, {api.Value{Keys: []string{"a"}, Items: []api.Value{one}}, "a", api.Value{}, false},
	} {
		if got, ok := value.Get(row.v, row.key); ok != row.ok || !alike(got, row.want) {
			t.Errorf("Get(%v, %q) = %v, %v", row.v, row.key, got, ok)
		}
	}
}

func TestP3_7With(t *testing.T)    { with.checkAll(t) }
func TestP3_7Without(t *testing.T) { without.checkAll(t) }

func TestP3_7Examples(t *testing.T) {
	for _, row := range []struct{ v, key, item, want string }{
		{`{"a":1}`, "b", `2`, `{"a":1,"b":2}`}, {`{"a":1}`, "a", `null`, `{"a":null}`}, {`[]`, "a", `1`, ""}, {`{}`, "", `{}`, `{"":{}}`}, {`{"b":1}`, "a", `2`, `{"a":2,"b":1}`},
		{`{"a":1,"c":3}`, "b", `[2]`, `{"a":1,"b":[2],"c":3}`}, {`null`, "a", `1`, ""}, {`"a"`, "a", `1`, ""}, {`{"é":1}`, "z", `2`, `{"z":2,"é":1}`}, {`{"a":{"b":1}}`, "a", `{"c":1}`, `{"a":{"c":1}}`}, {`{"a":1}`, "\xff", `1`, ""},
	} {
		got, e := value.With(js(row.v), row.key, js(row.item))
		checkRow(t, "With of "+row.v, got, e, row.want)
	}
	for _, row := range []struct{ v, key, want string }{
		{`{"a":1}`, "a", `{}`}, {`{"a":1}`, "b", `{"a":1}`}, {`{}`, "a", `{}`}, {`{"a":1,"b":2,"c":3}`, "b", `{"a":1,"c":3}`}, {`{"":1,"a":2}`, "", `{"a":2}`}, {`{"a":1}`, "\xff", `{"a":1}`}, {`{"a":{"a":1}}`, "a", `{}`}, {`[]`, "a", ""}, {`null`, "a", ""},
	} {
		got, e := value.Without(js(row.v), row.key)
		checkRow(t, "Without of "+row.v, got, e, row.want)
	}
}

// checkRow takes no text as a refusal.
func checkRow(t *testing.T, what string, got api.Value, e api.Errno, want string) {
	t.Helper()
	refused := want == "" && e == api.ErrShape && alike(got, api.Value{})
	if !refused && (want == "" || e != api.OK || !alike(got, js(want))) {
		t.Errorf("%s: %v, %d, want %s", what, got, e, want)
	}
}

func TestP3_8Merge(t *testing.T) { merge.checkAll(t) }
func TestP3_8Deep(t *testing.T)  { deep.checkAll(t) }

func TestP3_8Examples(t *testing.T) {
	for _, row := range []struct{ a, b, merged, deep string }{
		{`{"a":1,"b":{"x":1}}`, `{"b":{"y":2}}`, `{"a":1,"b":{"y":2}}`, `{"a":1,"b":{"x":1,"y":2}}`},
		{`{}`, `{}`, `{}`, `{}`}, {`{"a":1}`, `{}`, `{"a":1}`, `{"a":1}`}, {`{}`, `{"a":1}`, `{"a":1}`, `{"a":1}`}, {`{"a":1,"c":3}`, `{"b":2,"d":4}`, `{"a":1,"b":2,"c":3,"d":4}`, `{"a":1,"b":2,"c":3,"d":4}`},
		{`{"a":{"x":1}}`, `{"a":2}`, `{"a":2}`, `{"a":2}`}, {`{"a":2}`, `{"a":{"x":1}}`, `{"a":{"x":1}}`, `{"a":{"x":1}}`}, {`{"a":{"x":1}}`, `{"a":null}`, `{"a":null}`, `{"a":null}`}, {`{"a":{"x":1}}`, `{"a":{}}`, `{"a":{}}`, `{"a":{"x":1}}`},
		{`{"a":[{"x":1}]}`, `{"a":[{"y":1}]}`, `{"a":[{"y":1}]}`, `{"a":[{"y":1}]}`}, {`{"a":{"b":{"c":1,"d":2}}}`, `{"a":{"b":{"d":3,"e":4}}}`, `{"a":{"b":{"d":3,"e":4}}}`, `{"a":{"b":{"c":1,"d":3,"e":4}}}`},
		{`{}`, `1`, ``, ``}, {`[]`, `{}`, ``, ``}, {`null`, `null`, ``, ``}, {`{}`, `[]`, ``, ``},
	} {
		got, e := value.Merge(js(row.a), js(row.b))
		checkRow(t, "Merge of "+row.a+" and "+row.b, got, e, row.merged)
		got, e = value.Deep(js(row.a), js(row.b))
		checkRow(t, "Deep of "+row.a+" and "+row.b, got, e, row.deep)
	}
}

// gone is what a sequence gives, told as an object whose keys may stand twice.
func gone(seq iter.Seq2[string, api.Value]) api.Value {
	out := object(nil)
	for key, item := range seq {
		out.Keys = append(out.Keys, key)
		out.Items = append(out.Items, item)
	}
	return out
}

// eachOf is what the words say that Each goes through.
func eachOf(v api.Value) api.Value {
	out := object(nil)
	if formedOf(v) && (v.Kind == api.Array || v.Kind == api.Object) {
		out.Items = v.Items
		out.Keys = v.Keys
	}
	for range len(out.Items) - len(out.Keys) {
		out.Keys = append(out.Keys, "")
	}
	return out
}

func checkEach(t *testing.T, v api.Value) {
	t.Helper()
	given, want := roomy(v), eachOf(v)
	seq := value.Each(given)
	first := gone(seq)
	if !alike(first, want) || !untouched(given, v) {
		t.Errorf("Each(%v) goes through %v; v is %v", v, first, given)
	}
	checkOwn(t, "Each", first, given)
	specimen.Scribble(given)
	second := gone(seq)
	checkOwn(t, "Each", second, given, first)
	specimen.Scribble(first)
	if third := gone(seq); !alike(second, want) || !alike(third, want) {
		t.Errorf("Each(%v) goes through %v and %v later", v, second, third)
	}
	for stop := 1; stop <= len(want.Keys); stop++ {
		checkLeft(t, seq, want, stop)
	}
	if again := gone(seq); !alike(again, want) {
		t.Errorf("Each(%v) goes through %v behind having been left", v, again)
	}
}

// checkLeft leaves a sequence, and calls of it that go on would panic.
func checkLeft(t *testing.T, seq iter.Seq2[string, api.Value], want api.Value, stop int) {
	t.Helper()
	n := 0
	for key, item := range seq {
		if key != want.Keys[n] || !alike(item, want.Items[n]) {
			t.Errorf("at %d: %q, %v", n, key, item)
		}
		specimen.Scribble(item)
		n++
		if n == stop {
			break
		}
	}
	if n != stop {
		t.Errorf("left at %d, not at %d", n, stop)
	}
}

func TestP3_9Each(t *testing.T) {
	for _, v := range wellShaped(1000) {
		checkEach(t, v)
	}
	for _, v := range wrong() {
		checkEach(t, v)
	}
	for _, v := range []string{`[5,"x"]`, `{"a":1}`, `"x"`, `{"a":[[1]],"b":{"c":{}},"z":null}`, `[[[1,2],{"a":[]}],[[]],null]`} {
		checkEach(t, js(v))
	}
}

func TestP3_9Examples(t *testing.T) {
	if got := gone(value.Each(js(`[5,"x"]`))); !alike(got, object([]string{"", ""}, num("5"), text("x"))) {
		t.Errorf("Each of an array: %v", got)
	}
	if got := gone(value.Each(js(`{"a":1}`))); !alike(got, object([]string{"a"}, num("1"))) {
		t.Errorf("Each of an object: %v", got)
	}
	for _, v := range append(wrong(), kind(0), kind(1), kind(2), num("1"), text("x"), list(), object(nil)) {
		if value.Each(v) == nil || len(gone(value.Each(v)).Items) > 0 {
			t.Errorf("Each(%v) goes through something, or is nil", v)
		}
	}
}

// Two goings at once, one within the other and one pulled, don't meet.
func TestP3_9AtOnce(t *testing.T) {
	want := js(`{"a":1,"b":[2],"c":{"d":3}}`)
	seq := value.Each(want)
	next, stop := iter.Pull2(seq)
	defer stop()
	n := 0
	for key, item := range seq {
		pulled, other, ok := next()
		if !ok || pulled != key || !alike(other, item) || key != want.Keys[n] {
			t.Errorf("%q %v beside %q %v", key, item, pulled, other)
		}
		if inner := gone(seq); !alike(inner, want) {
			t.Errorf("inside: %v", inner)
		}
		n++
	}
	if _, _, ok := next(); ok || n != 3 {
		t.Errorf("%d items", n)
	}
}

// What is changed while it is gone through is as it was at the call.
func TestP3_9ChangedOnTheWay(t *testing.T) {
	v := js(`{"a":[1],"b":[2],"c":[3]}`)
	want, n := roomy(v), 0
	for key, item := range value.Each(v) {
		if key != want.Keys[n] || !alike(item, want.Items[n]) {
			t.Errorf("%q %v", key, item)
		}
		specimen.Scribble(v)
		n++
	}
	if n != 3 {
		t.Errorf("%d items", n)
	}
}

func TestP3_10Order(t *testing.T) {
	all := wellShaped(60)
	for _, a := range all {
		if value.Cmp(a, a) != 0 {
			t.Errorf("%v isn't itself", a)
		}
		for _, b := range all {
			if value.Cmp(b, a) != -value.Cmp(a, b) {
				t.Errorf("Cmp(%v, %v)", a, b)
			}
			for _, c := range all {
				if value.Cmp(a, b) <= 0 && value.Cmp(b, c) <= 0 && value.Cmp(a, c) > 0 {
					t.Errorf("%v, %v, %v", a, b, c)
				}
			}
		}
	}
}

func TestP3_10Weight(t *testing.T) {
	for _, v := range append(wellShaped(3000), nested(num("1"), 1000)) {
		weight := value.Weight(v)
		if weight < 1 || weight < value.Depth(v) {
			t.Errorf("Weight(%v) = %d, Depth %d", v, weight, value.Depth(v))
		}
		for _, item := range v.Items {
			if value.Weight(item) >= weight {
				t.Errorf("%v weighs no more than %v", v, item)
			}
		}
	}
}

// must is an answer without its error, which is none.
func must(t *testing.T) func(v api.Value, e api.Errno) api.Value {
	return func(v api.Value, e api.Errno) api.Value {
		t.Helper()
		if e != api.OK || v.Kind != api.Object || !value.Formed(v) {
			t.Errorf("%v, %d", v, e)
		}
		return v
	}
}

func checkFields(t *testing.T, v, item api.Value, key string) {
	t.Helper()
	ok := must(t)
	put := ok(value.With(v, key, item))
	if got, there := value.Get(put, key); !there || !value.Same(got, item) {
		t.Errorf("Get behind With(%v, %q, %v) is %v", v, key, item, got)
	}
	if old, there := value.Get(v, key); there && !value.Same(ok(value.With(v, key, old)), v) {
		t.Errorf("With(%v, %q) of what is there", v, key)
	}
	if !value.Same(ok(value.Without(put, key)), ok(value.Without(v, key))) {
		t.Errorf("Without behind With(%v, %q, %v)", v, key, item)
	}
	if !value.Same(ok(value.Make(v.Keys, v.Items)), v) {
		t.Errorf("Make of %v", v)
	}
}

func checkMerges(t *testing.T, a, b, c api.Value) {
	t.Helper()
	ok := must(t)
	if !value.Same(ok(value.Merge(a, ok(value.Merge(b, c)))), ok(value.Merge(ok(value.Merge(a, b)), c))) {
		t.Errorf("Merge of %v, %v, %v", a, b, c)
	}
	if none := object(nil); !value.Same(ok(value.Merge(a, none)), a) || !value.Same(ok(value.Merge(none, a)), a) {
		t.Errorf("Merge of %v and none", a)
	}
	keys, items := slices.Concat(c.Keys, a.Keys, c.Keys), slices.Concat(c.Items, a.Items, c.Items) // some stand twice
	whole := ok(value.Make(slices.Concat(keys, b.Keys), slices.Concat(items, b.Items)))
	if !value.Same(whole, ok(value.Merge(ok(value.Make(keys, items)), ok(value.Make(b.Keys, b.Items))))) {
		t.Errorf("Make of %v, %v, %v laid behind one another", a, b, c)
	}
	ok(value.Deep(a, b))
}

func TestP3_10Objects(t *testing.T) {
	pick := random(11)
	for range 4000 {
		a, b, c := drawnObject(pick, 2), drawnObject(pick, 2), drawnObject(pick, 2)
		checkFields(t, a, drawn(pick, 2), names[pick(len(names))])
		checkMerges(t, a, b, c)
	}
}

// calls asks everything of two values and a key; what comes of it is told by values alone.
func calls(a, b api.Value, key string) []api.Value {
	out := []api.Value{kind(value.Cmp(a, b)), kind(value.Weight(a)), kind(value.Depth(a)), text(value.Name(a.Kind)), gone(value.Each(a))}
	for _, yes := range []bool{value.Formed(a), value.Same(a, b), value.True(a)} {
		if yes {
			out = append(out, text("yes"))
		}
	}
	for _, m := range []made{twin, making, making1, get, with, without, merge, deep} {
		v, e := m.do(a, b, key)
		out = append(out, v, kind(int(e)))
	}
	return out
}

// Of what isn't well shaped nothing is promised but that calls end, and that arguments stay as they were.
func TestAnyArgument(t *testing.T) {
	some := append(misshapen(), wellShaped(5)...)
	for _, a := range some {
		for _, b := range some {
			x, y := roomy(a), roomy(b)
			calls(x, y, "a")
			if !untouched(x, a) || !untouched(y, b) {
				t.Errorf("changed: %v, %v", x, y)
			}
		}
	}
}

// The bound on what is nested is met in each call, and at a cost that doesn't grow with the square.
func TestDeepValues(t *testing.T) {
	const levels = 1<<16 - 3
	v, w := num("1"), num("2")
	for range levels {
		v, w = object([]string{"a", "b"}, v, num("1")), object([]string{"a", "c"}, w, text(""))
	}
	rows := nested(num("07"), levels)
	if !value.Formed(v) || value.Formed(rows) || value.Cmp(v, w) != -1 || value.Depth(v) != levels || value.Weight(v) != 2+levels*7 {
		t.Error("deep objects", value.Cmp(v, w), value.Depth(v), value.Weight(v))
	}
	ok := must(t)
	both := ok(value.Deep(v, w))
	if value.Depth(both) != levels || value.Weight(both) != 2+levels*10 {
		t.Error("Deep", value.Depth(both), value.Weight(both))
	}
	if !value.Same(value.Twin(both), both) || !value.Same(ok(value.Merge(v, w)), ok(value.With(w, "b", num("1")))) {
		t.Error("Twin, Merge, With")
	}
	if got, there := value.Get(both, "a"); !there || value.Depth(got) != levels-1 {
		t.Error("Get", there)
	}
	for key, item := range value.Each(both) {
		if key == "a" && value.Depth(item) != levels-1 {
			t.Error("Each", value.Depth(item))
		}
	}
}

// Wide values, likewise.
func TestWideValues(t *testing.T) {
	const many = 1 << 16
	a, b := object(nil), object(nil)
	for i := range many {
		key := string([]byte{'a' + byte(i>>12), 'a' + byte(i>>8&15), 'a' + byte(i>>4&15), 'a' + byte(i&15)})
		a.Keys, a.Items = append(a.Keys, key), append(a.Items, num("1"))
		b.Keys, b.Items = append(b.Keys, key+"x"), append(b.Items, num("2"))
	}
	ok := must(t)
	both := ok(value.Merge(a, b))
	if len(both.Keys) != 2*many || !value.Same(both, ok(value.Deep(b, a))) || value.Weight(both) != 1+many*(7+8) {
		t.Error(len(both.Keys), value.Weight(both))
	}
	if got := ok(value.Without(both, "ppppx")); len(got.Keys) != 2*many-1 {
		t.Error(len(got.Keys))
	}
}

func TestSameness(t *testing.T) {
	a, b := js(`{"a":{"x":[1,{"y":2}]},"b":[null],"c":"d"}`), js(`{"a":{"z":{}},"bb":-10}`)
	want := calls(a, b, "a")
	var group sync.WaitGroup
	for range 8 {
		group.Go(func() {
			for range 200 {
				if got := calls(a, b, "a"); !slices.EqualFunc(got, want, alike) {
					t.Errorf("%v, and %v ahead", got, want)
				}
			}
		})
	}
	seq := value.Each(a)
	for range 8 {
		group.Go(func() {
			for range 200 {
				if !alike(gone(seq), a) {
					t.Error("Each")
				}
			}
		})
	}
	group.Wait()
}

func FuzzAny(f *testing.F) {
	for _, s := range []string{"", "\x06\x04\x01\x03\x02", "\x05\x03\x06\x02\x01\x06\x04\x03\x03", "abcdefghijklmnop", strings.Repeat("\x06\x04\x05", 30)} {
		f.Add([]byte(s))
	}
	f.Fuzz(func(t *testing.T, data []byte) {
		pick := specimen.Picks(data)
		key := names[pick(len(names))]
		a, b, c := drawnObject(pick, 4), drawn(pick, 4), drawnObject(pick, 3)
		checkCmp(t, a, c)
		checkCmp(t, b, a)
		checkMerges(t, a, c, drawnObject(pick, 2))
		checkFields(t, a, b, key)
		if pick(4) == 0 {
			a = spoilt(a, pick)
		}
		if pick(4) == 0 {
			b = spoilt(b, pick)
		}
		if value.Formed(a) != formedOf(a) || value.Formed(b) != formedOf(b) {
			t.Errorf("Formed of %v, %v", a, b)
		}
		for _, m := range []made{twin, making, making1, get, with, without, merge, deep} {
			m.check(t, a, b, key)
			m.check(t, b, a, key)
			m.check(t, a, c, key)
		}
		checkEach(t, a)
		checkEach(t, b)
	})
}
