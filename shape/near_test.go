package shape_test

import (
	"slices"
	"strconv"
	"testing"

	"hallmark/api"
	"hallmark/shape"
	"hallmark/specimen"
)

// names are so many names that rise.
func names(many int) []string {
	var out []string
	for i := range many {
		out = append(out, "k"+strconv.Itoa(1000000+i))
	}
	return out
}

// wide is an object of so many keys, with these items again and again.
func wide(many int, items ...api.Value) api.Value {
	out := object(names(many))
	for i := range many {
		out.Items = append(out.Items, items[i%len(items)])
	}
	return out
}

// musts is the type of an object with these fields, all of which must be there, and no others.
func musts(names []string, fields ...api.Type) api.Type {
	return objects(api.Obj{Names: names, Fields: fields, Must: slices.Repeat([]bool{true}, len(names))})
}

// inside is what lies so deep in a type, going in by the item of arrays.
func inside(a api.Type, deep int) api.Type {
	for range deep {
		a = a.Arrays[0].Item
	}
	return a
}

// boxed is a value within so many arrays.
func boxed(v api.Value, deep int) api.Value {
	for range deep {
		v = list(v)
	}
	return v
}

// boxedType is a type within so many arrays of one item.
func boxedType(a api.Type, deep int) api.Type {
	for range deep {
		a = arrays(a, 1, 1)
	}
	return a
}

func isOf(t *testing.T, v api.Value, want api.Type) {
	t.Helper()
	if got, e := shape.Of(v); e != api.OK || !specimen.AlikeTypes(got, want) || !shape.Same(got, want) {
		t.Errorf("Of(%s) = %s, %d, want %s", short(v), short(got), e, short(want))
	}
	checkOf(t, v)
}

func TestP9_4Examples(t *testing.T) {
	one := nums("1", "1")
	for _, row := range []struct {
		v    string
		want api.Type
	}{
		{`3`, nums("3", "3")}, {`[]`, arrays(never, 0, 0)}, {`[1,1]`, arrays(one, 2, 2)}, {`[1,"a"]`, arrays(api.Type{Nums: []api.Span{{}}, AnyText: true}, 2, 2)}, {`{"a":null}`, musts([]string{"a"}, null)},
		{`null`, null}, {`false`, api.Type{False: true}}, {`true`, api.Type{True: true}}, {`-123456789012345678901234567890`, nums("-123456789012345678901234567890", "-123456789012345678901234567890")}, {`""`, texts("")}, {`"é"`, texts("é")}, {`{}`, objects(api.Obj{})},
		{`[1]`, arrays(one, 1, 1)}, {`[1,2]`, arrays(anyNumber, 2, 2)}, {`[1,1,1,2]`, arrays(anyNumber, 4, 4)}, {`[2,1,1,1]`, arrays(anyNumber, 4, 4)}, {`[null,null]`, arrays(null, 2, 2)}, {`[null,true,null]`, arrays(api.Type{Null: true, True: true}, 3, 3)}, {`["a","b"]`, arrays(anyText, 2, 2)},
		{`[[],[]]`, arrays(arrays(never, 0, 0), 2, 2)}, {`[[],[1]]`, arrays(anyList, 2, 2)}, {`[{},{"a":1}]`, arrays(anyKeys, 2, 2)}, {`[[1],[1]]`, arrays(arrays(one, 1, 1), 2, 2)}, {`[[1,2],[2,1]]`, arrays(arrays(anyNumber, 2, 2), 2, 2)},
		{`[[1,2],[2,3]]`, arrays(arrays(anyNumber, 2, 2), 2, 2)}, {`[[1,2],[1,"a"]]`, arrays(anyList, 2, 2)}, {`[null,false,true,1,"a",[],{}]`, arrays(every, 7, 7)}, {`[null,false,true,1,"a",[]]`, arrays(shape.OfKinds(63), 6, 6)}, {`[{"a":[1,2]},{"a":[5,7]}]`, arrays(musts([]string{"a"}, arrays(anyNumber, 2, 2)), 2, 2)},
		{`{"b":[1],"a":{"c":"x"}}`, musts([]string{"a", "b"}, musts([]string{"c"}, texts("x")), arrays(one, 1, 1))}, {`{"":{}}`, musts([]string{""}, objects(api.Obj{}))},
	} {
		isOf(t, js(row.v), row.want)
	}
}

func TestP9_4Misshapen(t *testing.T) {
	for _, v := range specimen.Wrong() {
		given := specimen.Roomy(v)
		if got, e := shape.Of(given); e != api.ErrShape || !specimen.AlikeTypes(got, api.Type{}) || !specimen.Untouched(given, v) {
			t.Errorf("Of(%s) = %s, %d", short(v), short(got), e)
		}
	}
	if got, e := shape.Of(boxed(num("07"), 20)); e != api.ErrShape || !specimen.AlikeTypes(got, api.Type{}) {
		t.Errorf("what isn't well shaped, beyond the height: %v, %d", got, e)
	}
	if got, e := shape.Of(wide(13, kind(9))); e != api.ErrShape || !specimen.AlikeTypes(got, api.Type{}) {
		t.Errorf("what isn't well shaped, among many fields: %v, %d", got, e)
	}
}

func TestP9_4WellShaped(t *testing.T) {
	for _, v := range specimen.WellShaped(random(4), 2000) {
		checkOf(t, v)
		for deep := 4; deep < 10; deep++ {
			checkOf(t, specimen.Nested(v, deep))
		}
	}
	pick := random(44)
	for range 300 {
		checkOf(t, specimen.Drawn(pick, 11))
	}
}

// As deep as a type goes, and one more.
func TestP9_4Deep(t *testing.T) {
	for deep := range 12 {
		bottom := arrays(never, 0, 0)
		if deep > 7 {
			bottom = every
		}
		isOf(t, boxed(list(), deep), boxedType(bottom, min(deep, 8)))
		bottom = musts([]string{"a"}, nums("1", "1"))
		if deep > 7 {
			bottom = every
		}
		isOf(t, boxed(js(`{"a":1}`), deep), boxedType(bottom, min(deep, 8)))
		scalar := every
		if deep <= 8 {
			scalar = texts("x")
		}
		isOf(t, boxed(text("x"), deep), boxedType(scalar, min(deep, 8)))
		got, _ := shape.Of(boxed(list(), deep))
		if shape.Height(got) != min(deep+1, 8) {
			t.Errorf("%d arrays: the height %d", deep+1, shape.Height(got))
		}
	}
}

// Arrays whose items are the same, of the same kinds, and of others, where each height is left for them.
func TestP9_4ArraysAtEachHeight(t *testing.T) {
	one, two := nums("1", "1"), nums("2", "2")
	for _, row := range []struct {
		v              string
		h1, h2, higher api.Type // the item with a height of 1, of 2, and above
	}{
		{`[]`, never, never, never}, {`[1,1]`, one, one, one}, {`[2,2,2]`, two, two, two}, {`[1,2]`, every, anyNumber, anyNumber}, {`[1,null]`, every, shape.OfKinds(9), shape.OfKinds(9)}, {`["a","b"]`, every, anyText, anyText}, {`[true,false]`, every, shape.OfKinds(6), shape.OfKinds(6)},
		{`[[],[]]`, every, arrays(never, 0, 0), arrays(never, 0, 0)}, {`[[],[[]]]`, every, anyList, anyList}, {`[[],{}]`, every, shape.OfKinds(96), shape.OfKinds(96)}, {`[1,[]]`, every, shape.OfKinds(40), shape.OfKinds(40)}, {`[{},{}]`, every, objects(api.Obj{}), objects(api.Obj{})},
		{`[[[]],[[1]]]`, every, arrays(every, 1, 1), anyList}, {`[[1,2],[3,4]]`, every, arrays(every, 2, 2), arrays(anyNumber, 2, 2)}, {`[[1,2],[1,"a"]]`, every, arrays(every, 2, 2), anyList}, {`[[1,2],[1,1]]`, every, anyList, anyList},
		{`[{"a":[]},{"a":{}}]`, every, musts([]string{"a"}, every), anyKeys}, {`[{"a":1},{"b":1}]`, every, anyKeys, anyKeys}, {`[{"a":1},{"a":2}]`, every, anyKeys, anyKeys},
	} {
		many := len(js(row.v).Items)
		for height := 0; height <= 8; height++ {
			got, e := shape.Of(boxed(js(row.v), 8-height))
			want := []api.Type{every, arrays(row.h1, many, many), arrays(row.h2, many, many), arrays(row.higher, many, many)}[min(height, 3)]
			if e != api.OK || !specimen.AlikeTypes(inside(got, 8-height), want) {
				t.Errorf("%s with the height %d: %v, %d, want %v", row.v, height, inside(got, 8-height), e, want)
			}
			checkOf(t, boxed(js(row.v), 8-height))
		}
	}
}

// Objects of as many keys as a type names, and of one more, where each height is left for them.
func TestP9_4ObjectsAtEachHeight(t *testing.T) {
	for _, row := range []struct {
		item, other string
		rest        uint8
		exact       []api.Type // what is told of the first item, with a height of 0, and above
	}{
		{`1`, `1`, 8, []api.Type{nums("1", "1"), nums("1", "1")}}, {`1`, `"a"`, 24, []api.Type{nums("1", "1"), nums("1", "1")}}, {`[]`, `{}`, 96, []api.Type{every, arrays(never, 0, 0)}}, {`{"a":null}`, `{"a":true}`, 64, []api.Type{every, musts([]string{"a"}, null)}}, {`null`, `null`, 1, []api.Type{null, null}},
	} {
		for height := 0; height <= 8; height++ {
			most, more := wide(12, js(row.item), js(row.other)), wide(13, js(row.item), js(row.other))
			got, _ := shape.Of(boxed(most, 8-height))
			obj := inside(got, 8-height)
			if height == 0 && !specimen.AlikeTypes(obj, every) || height > 0 && (len(obj.Objects[0].Names) != 12 || !specimen.AlikeTypes(obj.Objects[0].Fields[10], row.exact[min(height-1, 1)])) {
				t.Errorf("twelve of %s with the height %d: %v", row.item, height, obj)
			}
			want := []api.Type{every, objects(api.Obj{Rest: every}), objects(api.Obj{Rest: shape.OfKinds(row.rest)})}[min(height, 2)]
			got, _ = shape.Of(boxed(more, 8-height))
			if !specimen.AlikeTypes(inside(got, 8-height), want) {
				t.Errorf("thirteen of %s with the height %d: %v, want %v", row.item, height, inside(got, 8-height), want)
			}
			checkOf(t, boxed(most, 8-height))
			checkOf(t, boxed(more, 8-height))
		}
	}
	for many := range 16 {
		checkOf(t, wide(many, js(`[1,{"a":2}]`), js(`null`), js(`"x"`)))
		checkOf(t, list(wide(many, js(`[1]`)), wide(many, js(`[1]`)), wide(many, js(`[2]`))))
	}
}

// What is answered again is the same, whatever was written into the first answer.
func TestMemoryOfAnswers(t *testing.T) {
	for _, v := range specimen.WellShaped(random(41), 500) {
		first, _ := shape.Of(v)
		again, _ := shape.Of(v)
		if !specimen.OwnType(first, again) {
			t.Errorf("two answers of Of(%v) share memory", v)
		}
		specimen.ScribbleType(first)
		if third, e := shape.Of(v); e != api.OK || !specimen.AlikeTypes(third, again) {
			t.Errorf("Of(%v) = %v, behind what was written into its answer", v, third)
		}
	}
}
