package prim_test

import (
	"slices"
	"strings"
	"testing"

	"hallmark/api"
	"hallmark/arith"
	"hallmark/path"
	"hallmark/specimen"
	"hallmark/value"
)

// made is what a primitive makes of an input and arguments; where it makes nothing it is of no kind, so that no other primitive takes it.
func made(name string, in api.Value, args ...api.Value) api.Value {
	if got := do(name, in, args...); got.Ok {
		return got.V
	}
	return kind(-1)
}

// wants complains of a value that isn't what follows.
func wants(t *testing.T, what string, of, got, want api.Value) {
	t.Helper()
	if !specimen.Alike(got, want) {
		t.Errorf("%s of %s: %s, want %s", what, short(of), short(got), short(want))
	}
}

// checkAnswers: each primitive answers of well shaped values one that is well shaped and not too heavy, or its fault, a well shaped Text.
func checkAnswers(t *testing.T, l ...api.Value) {
	t.Helper()
	for _, p := range allOnes() {
		got := do(p.name, l[0], l[1:p.takes+1]...)
		right := !got.Ok && alike(got, fails(strings.TrimPrefix(p.name, "_"))) && formedOf(got.Fault)
		if got.Ok {
			right = formedOf(got.V) && specimen.Alike(got.Fault, api.Value{}) && value.Weight(got.V) <= most
		}
		if !right {
			t.Errorf("%s of %s = %s", p.name, short(l[:p.takes+1]), short(got.Told()))
		}
	}
}

// checkOne: what follows of one value.
func checkOne(t *testing.T, v api.Value) {
	t.Helper()
	wants(t, "fromjson of tojson", v, made("fromjson", made("tojson", v)), v)
	wants(t, "contains with itself", v, made("contains", v, v), kind(api.True))
	switch v.Kind {
	case api.Number:
		wants(t, "tonumber of tostring", v, made("tonumber", made("tostring", v)), v)
	case api.Text:
		wants(t, "implode of explode", v, made("implode", made("explode", v)), v)
		wants(t, "reverse twice", v, made("reverse", made("reverse", v)), v)
	case api.Array:
		wants(t, "reverse twice", v, made("reverse", made("reverse", v)), v)
		wants(t, "sort of reverse", v, made("sort", made("reverse", v)), made("sort", v))
		wants(t, "flatten of flatten", v, made("flatten", made("flatten", v)), made("flatten", v))
		checkUnique(t, v)
		checkKeys(t, v)
	case api.Object:
		checkKeys(t, v)
	}
}

// checkUnique: unique has each item once, rising.
func checkUnique(t *testing.T, v api.Value) {
	t.Helper()
	got := made("unique", v)
	rises := slices.IsSortedFunc(got.Items, value.Cmp) && len(slices.CompactFunc(slices.Clone(got.Items), value.Same)) == len(got.Items)
	for _, item := range v.Items {
		rises = rises && slices.ContainsFunc(got.Items, func(w api.Value) bool { return specimen.Alike(item, w) })
	}
	for _, item := range got.Items {
		rises = rises && slices.ContainsFunc(v.Items, func(w api.Value) bool { return specimen.Alike(item, w) })
	}
	if !rises {
		t.Errorf("unique of %s: %s", short(v), short(got))
	}
}

// checkKeys: those of an object rise, and has is True of the keys alone.
func checkKeys(t *testing.T, v api.Value) {
	t.Helper()
	keys := made("keys", v)
	if !slices.IsSortedFunc(keys.Items, value.Cmp) || len(keys.Items) != len(v.Items) {
		t.Errorf("keys of %s: %s", short(v), short(keys))
	}
	asked := slices.Clone(keys.Items)
	for _, key := range keys.Items {
		asked = append(asked, text(key.Text+"x"), num("-"+key.Num+"1"))
	}
	for _, name := range append(specimen.Names(), "zzz") {
		asked = append(asked, text(name))
	}
	for _, n := range []int{-1, 0, 1, len(v.Items) - 1, len(v.Items), len(v.Items) + 1} {
		asked = append(asked, whole(n))
	}
	for _, key := range asked {
		if !formedOf(key) || (key.Kind == api.Text) != (v.Kind == api.Object) {
			continue
		}
		there := slices.ContainsFunc(keys.Items, func(w api.Value) bool { return specimen.Alike(key, w) })
		wants(t, "has with "+short(key), v, made("has", v, key), truth(there).V)
	}
}

// checkTexts: join of split is the text.
func checkTexts(t *testing.T, s, part api.Value) {
	t.Helper()
	if part.Text != "" {
		wants(t, "join of split with "+part.Text, s, made("join", made("split", s, part), part), s)
	}
}

// checkPut: behind setpath getpath is what was put.
func checkPut(t *testing.T, v, way, x api.Value) {
	t.Helper()
	below := slices.ContainsFunc(way.Items, func(key api.Value) bool { return strings.HasPrefix(key.Num, "-") })
	got := do("setpath", v, way, x)
	if got.Ok && !below {
		wants(t, "getpath behind setpath", list(v, way), made("getpath", got.V, way), x)
	}
}

func TestP21_5One(t *testing.T) {
	of := drawnKinds(2151, 800)
	for _, all := range of {
		for _, v := range all {
			checkOne(t, v)
		}
	}
	for _, v := range []api.Value{nines(100000), list(times(list(num("1")), 1000)...), long(100000), list(times(text("é"), 1000)...)} {
		checkOne(t, v)
	}
	for deep := range 65 {
		checkOne(t, specimen.Nested(num("1"), deep))
	}
	if got := do("fromjson", made("tojson", specimen.Nested(num("1"), 65))); !alike(got, fails("fromjson")) {
		t.Errorf("what is deeper than what is read: %s", short(got.Told()))
	}
}

func TestP21_5Texts(t *testing.T) {
	pick := random(2152)
	for range 5000 {
		s := specimen.DrawnText(pick) + specimen.DrawnText(pick)
		checkTexts(t, text(s), text(pieceOf(pick, s)))
	}
}

func TestP21_5Answers(t *testing.T) {
	of := drawnKinds(2153, 200)
	pick := random(2154)
	for range 500 {
		for _, p := range allOnes() {
			l := append(drawn(pick, of, p), api.Value{}, list())
			checkAnswers(t, l[0], l[1], l[2])
		}
	}
}

func TestP21_5Paths(t *testing.T) {
	of := drawnKinds(2155, 200)
	pick := random(2156)
	for range 6000 {
		v, x := of[pick(7)], of[pick(7)]
		in := v[pick(len(v))]
		checkPut(t, in, list(wayOf(pick, in)...), x[pick(len(x))])
	}
	for _, way := range []string{"[]", `["a","b",0]`, "[0,0,0]", "[65536]", "[30000,35536]", `["a",100]`} {
		checkPut(t, api.Value{}, js(way), js(`{"a":[1]}`))
		checkPut(t, api.Value{}, js(way), api.Value{})
	}
}

// By which ways one comes to what, beside layer 8's own calls.
func TestP21_5PathsOfAll(t *testing.T) {
	for _, v := range specimen.WellShaped(random(2157), 2000) {
		for way, part := range path.All(v) {
			wants(t, "getpath", v, made("getpath", v, list(way...)), part)
			wants(t, "setpath of what is there", v, made("setpath", v, list(way...), part), v)
			wants(t, "delpaths of one", v, made("delpaths", v, list(list(way...))), dropped(v, way))
		}
	}
}

func dropped(v api.Value, way []api.Value) api.Value {
	out, _ := path.Drop(v, way)
	return out
}

// Very many items: what is held, found or added up doesn't cost their numbers multiplied.
func TestP21_2Many(t *testing.T) {
	const many = 60000
	up, down := list(), list()
	for i := range many {
		up.Items, down.Items = append(up.Items, whole(i)), append(down.Items, text(whole(many-i).Num))
	}
	for _, v := range []api.Value{up, down, list(slices.Concat(up.Items, down.Items)...)} {
		wants(t, "contains with itself, turned", num("0"), made("contains", v, made("reverse", v)), kind(api.True))
		wants(t, "sort", num("0"), made("sort", made("reverse", v)), made("unique", v))
	}
	wants(t, "contains of arrays with itself", num("0"), made("contains", made("transpose", list(up)), made("transpose", list(up))), kind(api.True))
	wants(t, "contains of what isn't there", num("0"), made("contains", up, list(append(slices.Clone(up.Items), num("-1"))...)), kind(api.False))
	ones := list(times(num("1"), 2*many)...)
	half := list(append(times(num("1"), many), num("2"))...)
	wants(t, "indices of what is nearly everywhere", num("0"), made("indices", list(append(slices.Clone(ones.Items), num("2"))...), half), list(whole(many)))
	wants(t, "indices of what is nowhere", num("0"), made("indices", ones, half), list())
	big := num("1" + strings.Repeat("0", 300000))
	sum, _, _ := arith.Do(api.Add, big, whole(2*many))
	wants(t, "add of one very long number and many short ones", num("0"), made("add", list(append([]api.Value{big}, ones.Items...)...)), sum)
	wants(t, "add of many texts", num("0"), made("add", list(times(text("ab"), many)...)), text(strings.Repeat("ab", many)))
	wants(t, "add of many arrays", num("0"), made("add", list(times(list(num("1")), many)...)), list(times(num("1"), many)...))
	var objects []api.Value
	want := object(nil)
	for i, key := range specimen.Named(many) {
		objects = append(objects, field(key, whole(i)))
		want.Keys, want.Items = append(want.Keys, key), append(want.Items, whole(i))
	}
	wants(t, "add of many objects", num("0"), made("add", list(objects...)), want)
	wants(t, "add of one object many times", num("0"), made("add", list(times(field("a", text("b")), many)...)), field("a", text("b")))
}

func FuzzAny(f *testing.F) {
	for _, s := range []string{"", "\x00\x04\x01\x03\x02", "\x01\x05\x03\x06\x02\x01\x06\x04\x03\x03", "abcdefghijklmnopqrstuvwxyz", "\x02\x05\x03\x03\x01\x03\x02\x03\x03\x04\x01\x04\x02\x01\x00\x01\x02\x01"} {
		f.Add([]byte(s))
	}
	f.Fuzz(func(t *testing.T, data []byte) {
		pick := specimen.Picks(data)
		p, how := allOnes()[pick(40)], pick(8)
		of := [7][]api.Value{{{}}, {kind(api.False)}, {kind(api.True)}, {num(specimen.DrawnNumber(pick)), num(specimen.DrawnNumber(pick))}, {text(specimen.DrawnText(pick)), text(specimen.DrawnText(pick))}}
		for range 2 {
			of[api.Array], of[api.Object] = append(of[api.Array], listOf(pick, of, pick(5), api.Null, api.True, api.Number, api.Text)), append(of[api.Object], specimen.DrawnObject(pick, 3))
		}
		l := drawn(pick, of, p)
		checkAnswers(t, append(slices.Clone(l), api.Value{}, list())...)
		for _, v := range l {
			checkOne(t, v)
		}
		if how == 1 {
			at := pick(len(l))
			l[at] = specimen.Spoilt(l[at], pick)
		}
		check(t, p.name, l[0], l[1:]...)
	})
}
