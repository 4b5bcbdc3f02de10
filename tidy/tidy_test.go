package tidy_test

import (
	"fmt"
	"slices"
	"strings"
	"testing"

	"hallmark/api"
	"hallmark/shape"
	"hallmark/specimen"
	"hallmark/tidy"
)

// check holds Tidy and Is to the words, and to the rules of memory.
func check(t *testing.T, a api.Type) {
	t.Helper()
	checkTidy(t, a, normOf(a))
}

func checkTidy(t *testing.T, a, want api.Type) {
	t.Helper()
	given := specimen.RoomyType(a)
	got, e := tidy.Tidy(given)
	if e != api.OK || !alike(got, want) {
		t.Errorf("Tidy(%s) = %s, %v, want %s", short(a), short(got), e, short(want))
	}
	if is := tidy.Is(given); is != alike(a, want) || !tidy.Is(got) {
		t.Errorf("Is(%s) = %v; Is of its normal form %s = %v", short(a), is, short(got), tidy.Is(got))
	}
	checkMemory(t, got, given, a)
}

// checkMemory: an answer is well shaped and in memory of its own, and what was given stays as it was, even if the answer is written into.
func checkMemory(t *testing.T, got, given, before api.Type) {
	t.Helper()
	if !shape.Formed(got) || !specimen.OwnType(got, given) {
		t.Errorf("%s, from %s: not well shaped, or not in memory of its own", short(got), short(before))
	}
	specimen.ScribbleType(got)
	if !specimen.UntouchedType(given, before) {
		t.Errorf("%s was changed", short(before))
	}
}

// isTidied holds Tidy to what is written out, which is what the words say.
func isTidied(t *testing.T, a, want api.Type) {
	t.Helper()
	if !shape.Formed(a) || !alike(normOf(a), want) {
		t.Errorf("%s: not well shaped, or by the words not %s, but %s", short(a), short(want), short(normOf(a)))
	}
	checkTidy(t, a, want)
}

// rooms are types around another one that have room for it: that one's normal form stands in theirs.
func rooms(a api.Type) []api.Type {
	rest, other := texts("room"), nums("77", "77")
	out := []api.Type{objects(objOf(rest, []string{"a"}, a)), objects(objOf(rest, []string{"a", "b!"}, a, other)), objects(objOf(a, nil)), objects(objOf(a, []string{"a!", "b!"}, other, other)), objects(objOf(rest, []string{"a!"}, other), objOf(a, []string{"z!"}, null))}
	if !isNever(a) {
		out = append(out, arrays(a, 0, -1), arrays(a, 1, 3), objects(objOf(rest, []string{"a!"}, a)), api.Type{Null: true, Nums: anyNumber.Nums, AnyText: true, Arrays: arrays(a, 0, 2).Arrays, Objects: []api.Obj{objOf(never, nil)}})
		out = append(out, objects(objOf(rest, []string{"a!"}, other), objOf(rest, []string{"z!"}, a)), arrays(objects(objOf(never, []string{"a!"}, arrays(a, 1, 1))), 0, -1))
	}
	return out
}

// isTidiedEverywhere is likewise, at the top and inside others.
func isTidiedEverywhere(t *testing.T, a, want api.Type) {
	t.Helper()
	isTidied(t, a, want)
	in, around := rooms(a), rooms(want)
	for i := range in {
		isTidied(t, in[i], around[i])
	}
}

// row is a type and its normal form.
type row struct{ a, want api.Type }

func checkRows(t *testing.T, rows []row) {
	t.Helper()
	for _, r := range rows {
		isTidiedEverywhere(t, r.a, r.want)
		isTidiedEverywhere(t, r.want, r.want)
	}
}

// threes is objects of three fields, nested so deep, around a type.
func threes(a api.Type, deep int) api.Type {
	for range deep {
		a = objects(objOf(never, []string{"a", "b", "c"}, a, a, a))
	}
	return a
}

func TestP11_1Examples(t *testing.T) {
	isTidied(t, never, never)
	isTidied(t, every, every)
	isTidied(t, laid, every)
	isTidied(t, null, null)
	isTidied(t, texts(named(17)...), anyText)
	isTidied(t, objects(objOf(null, []string{"a", "b!"}, null, null)), objects(objOf(null, []string{"b!"}, null)))
	isTidied(t, objects(objOf(never, []string{"a!"}, null), objOf(never, []string{"a"}, null)), objects(objOf(never, []string{"a"}, null)))
	isTidied(t, nest(null, 9), nest(every, 8))
	isTidied(t, threes(null, 6), threes(every, 4))
	if got := partsOf(threes(every, 4)); got != 161 {
		t.Errorf("%d parts", got)
	}
	five := objects(single("a!"), single("b!"), single("c!"), single("d!"), single("e!"))
	isTidied(t, five, objects(single("a!"), single("b!"), single("c!"), objOf(never, []string{"d", "e"}, null, null)))
	if got, e := tidy.Tidy(texts("b", "a")); e != api.ErrShape || !isNever(got) {
		t.Errorf("%v, %v", got, e)
	}
}

// single is an alternative of one field that is null, and no others.
func single(name string) api.Obj { return objOf(never, []string{name}, null) }

// Types of each kind that are normal forms, and nested ones.
func TestP11_1Plain(t *testing.T) {
	for _, a := range []api.Type{
		never, every, null, {False: true}, truth, both, anyNumber, nums("5", ""), nums("", "-5"), nums("5", "5"), nums("-123456789012345678901234567890", "1"), anyText, texts(""), texts("a", "b"), arrays(never, 0, 0), arrays(null, 0, -1), arrays(every, 2, 2), arrays(anyText, 1, 9),
		objects(objOf(never, nil)), objects(objOf(every, nil)), objects(objOf(null, []string{"a"}, never)), objects(objOf(never, []string{"a", "b!"}, null, truth)), objects(objOf(null, []string{"b!"}, null)), objects(single("a!"), single("b!")), {Null: true, True: true, Nums: anyNumber.Nums, Texts: []string{"a"}, Arrays: arrays(null, 1, -1).Arrays, Objects: []api.Obj{single("a")}},
	} {
		isTidiedEverywhere(t, a, a)
	}
	for _, a := range specimen.WellShapedTypes(random(1), 1000) {
		check(t, a)
	}
}

// Every laid out, at the top, inside others and inside itself; what only becomes that on the way; and what is nearly that.
func TestP11_1Every(t *testing.T) {
	with := func(change func(a *api.Type)) api.Type {
		a := specimen.LaidOut()
		change(&a)
		return a
	}
	for _, a := range []api.Type{
		laid, with(func(a *api.Type) { a.Arrays[0].Item = laid }), with(func(a *api.Type) { a.Objects[0].Rest = laid }), with(func(a *api.Type) { a.Arrays[0].Item, a.Objects[0].Rest = laid, laid }),
		with(func(a *api.Type) { a.AnyText, a.Texts = false, named(17) }), with(func(a *api.Type) { a.Objects = []api.Obj{objOf(every, []string{"a"}, every)} }), with(func(a *api.Type) { a.Objects = []api.Obj{objOf(laid, []string{"a", "b"}, every, laid)} }),
		with(func(a *api.Type) {
			a.Objects = []api.Obj{single("a!"), objOf(every, nil), objOf(null, nil), objOf(every, []string{"b"}, null)}
		}), with(func(a *api.Type) { a.Objects = []api.Obj{objOf(every, nil), objOf(laid, nil)} }),
		with(func(a *api.Type) {
			a.Objects = []api.Obj{single("a!"), single("b!"), single("c!"), objOf(every, []string{"d!"}, null), objOf(every, []string{"e!"}, null)}
		}), // the last two become one that has all of the others
	} {
		isTidiedEverywhere(t, a, every)
	}
	for _, a := range []api.Type{
		with(func(a *api.Type) { a.Null = false }), with(func(a *api.Type) { a.False = false }), with(func(a *api.Type) { a.True = false }), with(func(a *api.Type) { a.Nums = nil }), with(func(a *api.Type) { a.Nums[0].Low = "0" }), with(func(a *api.Type) { a.Nums[0].High = "0" }),
		with(func(a *api.Type) { a.AnyText = false }), with(func(a *api.Type) { a.AnyText, a.Texts = false, named(16) }), with(func(a *api.Type) { a.Arrays = nil }), with(func(a *api.Type) { a.Arrays[0].Min = 1 }), with(func(a *api.Type) { a.Arrays[0].Max = 1 << 62 }), with(func(a *api.Type) { a.Arrays = arrays(never, 0, 0).Arrays }),
		with(func(a *api.Type) { a.Arrays[0].Item = null }), with(func(a *api.Type) { a.Objects = nil }), with(func(a *api.Type) { a.Objects[0].Rest = never }), with(func(a *api.Type) { a.Objects = []api.Obj{objOf(every, []string{"a!"}, every)} }), with(func(a *api.Type) { a.Objects = []api.Obj{objOf(every, []string{"a"}, null)} }), with(func(a *api.Type) { a.Objects = []api.Obj{objOf(never, []string{"a"}, every)} }),
	} {
		isTidiedEverywhere(t, a, a)
	}
}

// Sixteen texts stay, seventeen and more become all, each part by itself.
func TestP11_1Texts(t *testing.T) {
	for _, many := range []int{0, 1, 15, 16} {
		a := texts(named(many)...)
		isTidiedEverywhere(t, a, a)
	}
	for _, many := range []int{17, 18, 33, 500} {
		isTidiedEverywhere(t, texts(named(many)...), anyText)
	}
	x, y := texts(named(16)...), texts(named(17)...)
	isTidied(t, objects(objOf(x, []string{"a!", "b"}, x, y)), objects(objOf(x, []string{"a!", "b"}, x, anyText)))
	isTidied(t, objects(objOf(anyText, []string{"a", "b!"}, y, y)), objects(objOf(anyText, []string{"b!"}, anyText)))
	a := api.Type{Null: true, Nums: anyNumber.Nums, Texts: y.Texts, Arrays: arrays(y, 1, 2).Arrays}
	isTidiedEverywhere(t, a, api.Type{Null: true, Nums: anyNumber.Nums, AnyText: true, Arrays: arrays(anyText, 1, 2).Arrays})
}

// with is an alternative with another field, or the same with another must.
func with(o api.Obj, at int, field api.Type, must bool) api.Obj {
	o.Fields, o.Must = slices.Clone(o.Fields), slices.Clone(o.Must)
	o.Fields[at], o.Must[at] = field, must
	return o
}

// first is an alternative of the first names alone, with another rest.
func first(o api.Obj, many int, rest api.Type) api.Obj {
	return api.Obj{Names: o.Names[:many], Fields: o.Fields[:many], Must: o.Must[:many], Rest: rest}
}

// Names that say no more than the rest: ahead of the cutting to twelve, and behind it.
func TestP11_1Names(t *testing.T) {
	of := func(o api.Obj) api.Type { return objects(o) }
	must, may := wide(12, null, true, never), wide(12, null, false, never)
	checkRows(t, []row{
		{of(objOf(null, []string{"a", "b"}, null, null)), of(objOf(null, nil))}, {of(objOf(never, []string{"a", "b"}, never, null)), of(objOf(never, []string{"b"}, null))}, {of(objOf(every, []string{"a", "b!"}, every, every)), of(objOf(every, []string{"b!"}, every))}, {of(objOf(texts(named(17)...), []string{"a"}, anyText)), of(objOf(anyText, nil))},
		{of(objOf(null, []string{"a", "b", "c"}, null, truth, null)), of(objOf(null, []string{"b"}, truth))}, {of(must), of(must)}, {of(may), of(may)}, {of(wide(11, null, false, never)), of(wide(11, null, false, never))},
		{of(wide(13, null, true, never)), of(wide(12, null, true, null))}, {of(wide(13, null, false, never)), of(objOf(null, nil))}, {of(wide(14, null, true, truth)), of(wide(12, null, true, both))}, {of(wide(14, null, false, truth)), of(wide(12, null, false, both))}, {of(wide(40, null, true, never)), of(wide(12, null, true, null))},
		{of(with(wide(13, null, true, never), 12, truth, true)), of(wide(12, null, true, truth))}, {of(with(wide(13, null, true, never), 12, truth, false)), of(wide(12, null, true, truth))}, {of(with(wide(13, null, false, never), 12, truth, true)), of(wide(12, null, false, truth))},
		{of(with(wide(13, null, true, never), 3, never, false)), of(without(wide(13, null, true, never), 3))}, {of(with(wide(13, null, true, truth), 12, truth, false)), of(wide(12, null, true, truth))}, {of(with(wide(13, null, true, truth), 12, truth, true)), of(wide(12, null, true, truth))}, {of(with(wide(14, null, true, truth), 5, truth, false)), of(first(without(wide(14, null, true, truth), 5), 12, both))},
		{of(with(wide(14, truth, true, never), 4, both, false)), of(with(wide(12, truth, true, truth), 4, both, false))}, {of(with(with(wide(14, truth, true, null), 4, both, false), 5, both, true)), of(without(with(wide(12, truth, true, both), 5, both, true), 4))},
		{of(with(with(wide(14, truth, true, never), 12, nums("1", "2"), true), 13, nums("7", "8"), false)), of(wide(12, truth, true, nums("1", "8")))}, {of(with(wide(13, null, true, never), 12, every, true)), of(wide(12, null, true, every))}, {of(with(wide(13, null, true, never), 12, never, false)), of(must)},
		{of(with(with(wide(14, null, true, texts(named(9)...)), 12, texts(named(16)...), true), 13, texts("a"), true)), of(wide(12, null, true, anyText))}, {of(with(wide(13, null, true, objects(single("a!"))), 12, objects(single("a")), true)), of(wide(12, null, true, objects(single("a"))))},
	})
}

// without is an alternative without a name.
func without(o api.Obj, at int) api.Obj {
	return api.Obj{Names: slices.Delete(slices.Clone(o.Names), at, at+1), Fields: slices.Delete(slices.Clone(o.Fields), at, at+1), Must: slices.Delete(slices.Clone(o.Must), at, at+1), Rest: o.Rest}
}

// The rest of an alternative with too many names is a normal form itself: of alternatives, of every laid out, and to the height that there is.
func TestP11_1RestOfNames(t *testing.T) {
	parts := []api.Type{{Null: true, False: true, True: true}, anyNumber, anyText, arrays(every, 0, -1), objects(objOf(every, nil))}
	o := wide(17, null, true, never)
	for i, part := range parts {
		o = with(o, 12+i, part, true)
	}
	isTidiedEverywhere(t, objects(o), objects(wide(12, null, true, every)))
	o = wide(17, null, true, never)
	for i, name := range []string{"e!", "c!", "a!", "b!", "d!"} {
		o = with(o, 12+i, objects(single(name)), true)
	}
	isTidiedEverywhere(t, objects(o), objects(wide(12, null, true, objects(single("a!"), single("b!"), single("c!"), objOf(never, []string{"d", "e"}, null, null)))))
	o = with(with(wide(14, null, true, never), 12, nest(null, 2), true), 13, nest(truth, 8), true)
	isTidied(t, objects(o), objects(wide(12, null, true, nest(arrays(sumOf(null, nest(every, 5)), 0, -1), 1))))
}

// Alternatives in any order, some of them twice: four stay, of more than four the first three.
func TestP11_1Alternatives(t *testing.T) {
	a, b, c, d, e := single("a!"), single("b!"), single("c!"), single("d!"), single("e!")
	for l := range specimen.Orders([]api.Obj{a, b, c, d}) {
		isTidied(t, objects(l...), objects(a, b, c, d))
		isTidied(t, objects(append(slices.Clone(l), l...)...), objects(a, b, c, d))
	}
	for l := range specimen.Orders([]api.Obj{a, b, c, d, e}) {
		want := objects(a, b, c, objOf(never, []string{"d", "e"}, null, null))
		isTidied(t, objects(l...), want)
		isTidied(t, objects(append(slices.Clone(l), l[1], l[4])...), want)
	}
	for l := range specimen.Orders([]api.Obj{a, single("a"), objOf(null, nil), objOf(truth, nil), objOf(both, nil)}) {
		isTidied(t, objects(l...), objects(objOf(both, nil)))
	}
	checkRows(t, []row{
		{objects(a, a), objects(a)}, {objects(b, a), objects(a, b)}, {objects(a, single("a")), objects(single("a"))}, {objects(objOf(null, nil), a), objects(objOf(null, nil))}, {objects(objOf(every, nil), objOf(never, nil), a), objects(objOf(every, nil))}, {objects(objOf(null, []string{"a!"}, truth), objOf(null, nil)), objects(objOf(null, nil), objOf(null, []string{"a!"}, truth))},
		{objects(objOf(null, []string{"a", "b"}, null, null), objOf(null, []string{"a"}, null)), objects(objOf(null, nil))}, {objects(a, objOf(never, []string{"a!"}, truth), objOf(never, []string{"a!"}, both)), objects(objOf(never, []string{"a!"}, both))}, {objects(objOf(never, []string{"a!"}, texts(named(17)...)), objOf(never, []string{"a!"}, anyText)), objects(objOf(never, []string{"a!"}, anyText))},
	})
	var many []api.Obj
	var names []string
	for _, name := range named(100) {
		many, names = append(many, single(name+"!")), append(names, name)
	}
	slices.Reverse(many)
	isTidiedEverywhere(t, objects(many...), objects(objOf(null, nil)))
	isTidied(t, objects(many[84:]...), objects(objOf(null, nil)))
	isTidied(t, objects(many[85:]...), objects(single(names[0]+"!"), single(names[1]+"!"), single(names[2]+"!"), objOf(never, names[3:15], slices.Repeat([]api.Type{null}, 12)...)))
}

// Chains: each alternative lies below the next one.
func TestP11_1Chains(t *testing.T) {
	var up []api.Obj
	for i := range 9 {
		up = append(up, objOf(never, []string{"k!"}, arrays(objects(objOf(null, []string{"x"}, nums("1", fmt.Sprint(i/2+1)))), 9-i, -1)))
	}
	pick := random(2)
	for range 30 {
		l := slices.Clone(up)
		for i := range l {
			k := pick(i + 1)
			l[i], l[k] = l[k], l[i]
		}
		isTidied(t, objects(l...), objects(up[8]))
		isTidied(t, objects(append(l, single("a!"), single("z!"))...), objects(single("a!"), up[8], single("z!")))
	}
}

// What several have become may lie below one of the others, have one of them below it, be the same, or stand ahead of them: then all is asked once more.
func TestP11_1Anew(t *testing.T) {
	a, b, c := single("a!"), single("b!"), single("c!")
	yes := func(name string) api.Obj { return objOf(never, []string{name}, truth) }
	d, e := objOf(null, []string{"d!"}, null), objOf(null, []string{"e!"}, null)
	open := objOf(never, []string{"a", "d", "e"}, null, null, null)
	checkRows(t, []row{
		{objects(a, b, c, d, e), objects(objOf(null, nil))}, {objects(yes("a!"), b, c, d, e), objects(objOf(null, nil), yes("a!"))}, {objects(yes("a!"), yes("b!"), yes("c!"), d, e), objects(objOf(null, nil), yes("a!"), yes("b!"), yes("c!"))},
		{objects(yes("a!"), yes("b!"), c, d, e, single("f!")), objects(objOf(null, nil), yes("a!"), yes("b!"))}, {objects(open, b, c, yes("f!"), yes("g!")), objects(open, b, c, objOf(never, []string{"f", "g"}, truth, truth))},
		{objects(a, b, objOf(never, []string{"d!", "e"}, both, both), objOf(never, []string{"d!"}, both), objOf(never, []string{"e!"}, null), objOf(never, []string{"e!"}, truth)), objects(a, b, objOf(never, []string{"d!", "e"}, both, both), objOf(never, []string{"e!"}, both))},
		{objects(a, b, objOf(never, []string{"d", "e!"}, null, null), objOf(never, []string{"d!", "f"}, null, null), objOf(never, []string{"d!", "g"}, null, null)), objects(a, b, objOf(never, []string{"d", "e!"}, null, null), objOf(never, []string{"d!", "f", "g"}, null, null, null))},
		{objects(objOf(null, []string{"a"}, truth), objOf(null, []string{"a!", "b"}, null, truth), objOf(never, []string{"c!"}, both), objOf(never, []string{"x!"}, both), objOf(never, []string{"y!"}, both)), objects(objOf(null, []string{"a"}, truth), objOf(null, []string{"a!", "b"}, null, truth), objOf(never, []string{"c!"}, both), objOf(never, []string{"x", "y"}, both, both))},
	})
	for l := range specimen.Orders([]api.Obj{yes("a!"), yes("b!"), yes("c!"), d, e}) {
		isTidied(t, objects(l...), objects(objOf(null, nil), yes("a!"), yes("b!"), yes("c!")))
	}
}

// What several have become is trimmed, and its fields are normal forms: their alternatives and texts counted anew, every laid out found.
func TestP11_1Became(t *testing.T) {
	a, b, c := single("a!"), single("b!"), single("c!")
	two := []api.Obj{objOf(never, []string{"m!"}, texts(named(10)...)), objOf(never, []string{"m!"}, texts("x1", "x2", "x3", "x4", "x5", "x6", "x7"))}
	isTidiedEverywhere(t, objects(append(two, a, b, c)...), objects(a, b, c, objOf(never, []string{"m!"}, anyText)))
	flags := api.Type{Null: true, False: true, True: true, Nums: anyNumber.Nums, AnyText: true}
	others := api.Type{Arrays: laid.Arrays, Objects: laid.Objects}
	isTidiedEverywhere(t, objects(objOf(never, []string{"m!"}, flags), a, objOf(never, []string{"m!"}, others), b, c), objects(a, b, c, objOf(never, []string{"m!"}, every)))
	x, y := objects(single("a!"), single("b!"), single("c!")), objects(single("d!"), single("e!"))
	isTidiedEverywhere(t, objects(objOf(never, []string{"m!"}, x), a, objOf(never, []string{"m!"}, y), b, c), objects(a, b, c, objOf(never, []string{"m!"}, objects(single("a!"), single("b!"), single("c!"), objOf(never, []string{"d", "e"}, null, null)))))
	m, n := wide(7, null, true, truth), wide(14, null, true, truth)
	n = api.Obj{Names: n.Names[7:], Fields: n.Fields[7:], Must: n.Must[7:], Rest: truth}
	one, three, last := objOf(null, []string{"!"}, nums("1", "1")), objOf(null, []string{"!"}, nums("3", "3")), objOf(null, []string{"!"}, nums("5", "5"))
	isTidiedEverywhere(t, objects(one, three, last, m, n), objects(objOf(both, nil), one, three, last))
}

// Types of the height 7, 8, 9 and far higher: from the ninth on they are every.
func TestP11_1Heights(t *testing.T) {
	for _, high := range []int{1, 2, 6, 7, 8} {
		for _, in := range []api.Type{null, every, texts("a"), both} {
			a := specimen.NestedType(in, high)
			isTidied(t, a, a)
			isTidied(t, nest(in, high), nest(in, high))
		}
	}
	for _, high := range []int{9, 10, 11, 17, 100, 3000} {
		isTidied(t, nest(null, high), nest(every, 8))
		isTidied(t, nest(texts(named(17)...), high), nest(every, 8))
		isTidied(t, specimen.NestedType(null, high), cutOf(specimen.NestedType(null, high), 8))
		side := sumOf(null, arrays(sumOf(truth, objects(objOf(anyText, []string{"a!", "b"}, nest(null, high), null))), 1, 2))
		isTidied(t, side, sumOf(null, arrays(sumOf(truth, objects(objOf(anyText, []string{"a!", "b"}, nest(every, 6), null))), 1, 2)))
	}
	inner := nest(laid, 7)
	isTidied(t, inner, nest(every, 7))
	isTidied(t, nest(laid, 8), nest(every, 8))
	a, b := objOf(never, []string{"a!"}, nest(null, 8)), objOf(never, []string{"a!"}, nest(truth, 9))
	isTidied(t, objects(a, b), objects(objOf(never, []string{"a!"}, nest(every, 7)))) // cut down they are the same
	isTidied(t, objects(objOf(nest(null, 8), []string{"a"}, nest(truth, 8))), objects(objOf(nest(every, 7), nil)))
}

// sized is a type of a height from 2 on, with so many parts in its normal form, which it is itself: two rows of fields, inside arrays.
func sized(height, parts int) api.Type {
	names := named(24)
	rows := [2]api.Obj{}
	left := parts - (height - 2) - 3 // the two rests, and what has them
	for i, name := range names {
		leaves := min(12, left-2*(24-i)-1) // each has a part for itself and one for its rest, and so have the others
		if i == 23 {
			leaves = left - 2
		}
		leaves = max(leaves, 0)
		field := objects(wide(leaves, null, true, truth))
		left -= leaves + 2
		o := &rows[i/12]
		o.Names, o.Fields, o.Must = append(o.Names, name), append(o.Fields, field), append(o.Must, true)
	}
	return nest(objects(rows[0], rows[1]), height-2)
}

// Types whose normal form has 200 parts, a few less and a few more, at each height.
func TestP11_1Parts(t *testing.T) {
	for height := 2; height <= 8; height++ {
		for parts := 190; parts <= 210; parts++ {
			a := sized(height, parts)
			if partsOf(a) != parts || shape.Height(a) != height {
				t.Fatalf("%d parts and the height %d, want %d and %d", partsOf(a), shape.Height(a), parts, height)
			}
			want := a
			if parts > 200 {
				want = cutOf(a, height-1)
			}
			isTidied(t, a, want)
		}
	}
	for height := 9; height <= 12; height++ {
		isTidied(t, sized(height, 200), cutOf(sized(height, 200), 8))
	}
	for deep := range 9 {
		isTidied(t, threes(null, deep), threes([]api.Type{null, every}[min(max(deep-4, 0), 1)], min(deep, 4)))
	}
}

// A row of fields that are high themselves: the whole is cut at the height at which it has too many parts.
func TestP11_1PartsDeep(t *testing.T) {
	for many := 1; many <= 12; many++ {
		for high := range 9 {
			o := wide(many, nest(null, high), true, never)
			deep := min(high, 7, 198/many-1) // each field has as many parts as it is high, and one more
			in := nest(every, deep)
			if deep == high {
				in = nest(null, high)
			}
			isTidied(t, objects(o), objects(wide(many, in, true, never)))
		}
	}
}

// A normal form to a height may have fewer parts than one to a lower height has; then the lower one counts.
func TestP11_1PartsFall(t *testing.T) {
	leaf := func(in api.Type) api.Type {
		l := wide(12, truth, true, never)
		l = with(l, 0, arrays(in, 0, -1), true)
		return objects(l, objOf(null, append(slices.Clone(named(14)[13:]), "x!"), never, truth))
	}
	rest, nearly := leaf(arrays(null, 0, -1)), leaf(arrays(truth, 0, -1))
	o := objOf(rest, []string{"a", "z!"}, nearly, null)
	fields := wide(11, null, true, never)
	for i := range fields.Names {
		fields.Names[i] = "f" + fields.Names[i]
	}
	a := objects(o, single("b!"), single("c!"), single("d!"), fields)
	var parts []int
	for height := range 6 {
		parts = append(parts, partsOf(normTo(a, height)))
	}
	if parts[1] > 200 || parts[2] <= 200 || parts[3] <= 200 || parts[4] > 200 {
		t.Fatalf("%v parts", parts)
	}
	isTidied(t, a, normTo(a, 1))
	isTidied(t, arrays(a, 0, -1), arrays(normTo(a, 1), 0, -1))
}

// Types that aren't well shaped, at the top or inside.
func TestP11_1Misshapen(t *testing.T) {
	for _, a := range specimen.WrongTypes() {
		given := specimen.RoomyType(a)
		got, e := tidy.Tidy(given)
		if e != api.ErrShape || !isNever(got) || tidy.Is(given) {
			t.Errorf("Tidy(%s) = %s, %v; Is = %v", short(a), short(got), e, tidy.Is(given))
		}
		if !specimen.UntouchedType(given, a) {
			t.Errorf("%s was changed", short(a))
		}
	}
}

// What isn't tidy, in each of the ways there are, at the top and inside.
func TestP11_1Is(t *testing.T) {
	a, b, c, d, e := single("a!"), single("b!"), single("c!"), single("d!"), single("e!")
	for _, untidy := range []api.Type{
		laid, texts(named(17)...), objects(objOf(null, []string{"a"}, null)), objects(wide(13, null, true, never)), objects(b, a), objects(a, a), objects(a, b, a), objects(a, single("a")), objects(single("a"), a), objects(a, b, c, d, e), nest(null, 9), nest(laid, 2), sized(2, 201), sized(8, 201), arrays(objects(b, a), 0, 1),
	} {
		if tidy.Is(untidy) {
			t.Errorf("Is(%s)", short(untidy))
		}
		for _, around := range rooms(untidy) {
			if tidy.Is(around) {
				t.Errorf("Is(%s)", short(around))
			}
		}
	}
	for _, is := range []api.Type{never, every, texts(named(16)...), objects(wide(12, null, true, never)), objects(a, b, c, d), nest(null, 8), sized(2, 200), sized(8, 200), specimen.EmptyListed(null), specimen.EmptyListed(never)} {
		if !tidy.Is(is) {
			t.Errorf("not Is(%s)", short(is))
		}
	}
}

// Types that are drawn, with more of all than a normal form has.
func TestP11_1Drawn(t *testing.T) {
	t.Parallel()
	pick := random(3)
	for range 400 {
		check(t, specimen.CrowdedType(pick, 2+pick(2)))
	}
	for range 60 {
		in := specimen.CrowdedType(pick, 3)
		if !isNever(in) {
			check(t, nest(in, 5+pick(3)))
			check(t, specimen.NestedType(in, 4+pick(3)))
		}
	}
}

// All rows of a few alternatives that differ in one field or two.
func TestP11_1Rows(t *testing.T) {
	t.Parallel()
	var all []api.Obj
	for _, rest := range []api.Type{never, null} {
		all = append(all, objOf(rest, nil))
		for _, name := range []string{"a", "a!", "b", "b!"} {
			all = append(all, objOf(rest, []string{name}, truth), objOf(rest, []string{name}, both))
		}
	}
	for i := range 1 << len(all) {
		if bits := strings.Count(fmt.Sprintf("%b", i), "1"); bits > 7 || bits > 5 && i%17 != 0 || bits > 3 && i%5 != 0 {
			continue
		}
		var l []api.Obj
		for k, o := range all {
			if i>>k&1 == 1 {
				l = append(l, o)
			}
		}
		checkTidyAlone(t, objects(l...))
	}
}

// checkTidyAlone holds Tidy to the words, and nothing else.
func checkTidyAlone(t *testing.T, a api.Type) {
	t.Helper()
	if got, e := tidy.Tidy(a); e != api.OK || !alike(got, normOf(a)) {
		t.Errorf("Tidy(%s) = %s, %v, want %s", short(a), short(got), e, short(normOf(a)))
	}
}
