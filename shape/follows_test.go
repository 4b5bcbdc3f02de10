package shape_test

import (
	"slices"
	"sync"
	"testing"

	"hallmark/api"
	"hallmark/shape"
	"hallmark/specimen"
	"hallmark/value"
)

// Each value is of the type Of it, which is well shaped and not too high.
func TestP9_8Of(t *testing.T) {
	pick := random(98)
	all := specimen.WellShaped(pick, 1000)
	for range 300 {
		all = append(all, specimen.Drawn(pick, 11))
	}
	all = append(all, wide(13, num("1"), list()), list(wide(20, object(nil)), wide(20, list())))
	for _, v := range all {
		for deep := range 10 {
			checkHas(t, boxed(v, deep))
		}
	}
}

func checkHas(t *testing.T, v api.Value) {
	t.Helper()
	got, e := shape.Of(v)
	if e != api.OK || !specimen.In(v, got) || !shape.Formed(got) || !formedOf(got) || shape.Height(got) > 8 || heightOf(got) > 8 {
		t.Errorf("Of(%s) = %s, %d", short(v), short(got), e)
	}
}

// exact draws a value that is the only one of its type: the items of each array in it are all the same.
func exact(pick specimen.Source, deep int) api.Value {
	v := specimen.Drawn(pick, min(deep, 1))
	for i := range v.Items {
		v.Items[i] = exact(pick, deep-1)
		if v.Kind == api.Array {
			v.Items[i] = v.Items[0]
		}
	}
	return v
}

// beside are values near another one: with an item more or fewer, another one, or a number or text that isn't quite the same.
func beside(v api.Value) []api.Value {
	out := []api.Value{kind(api.Null), kind(api.False), kind(api.True), num("0"), text(""), list(), object(nil), list(v), object([]string{"a"}, v)}
	switch v.Kind {
	case api.Number:
		out = append(out, num(big10(v.Num).Add(big10(v.Num), big10("1")).String()), num(big10(v.Num).Sub(big10(v.Num), big10("1")).String()), text(v.Num))
	case api.Text:
		out = append(out, text(v.Text+"a"), text("a"+v.Text), list(v))
	case api.Array:
		out = append(out, list(append(slices.Clone(v.Items), api.Value{})...))
		if len(v.Items) > 0 {
			out = append(out, list(v.Items[1:]...), list(append(slices.Clone(v.Items), v.Items[0])...))
		}
	case api.Object:
		more, _ := value.With(v, "new", api.Value{})
		out = append(out, more)
	}
	for i := range v.Items {
		out = append(out, besideItem(v, i)...)
	}
	return out
}

// besideItem are likewise with an item changed, or an object's field taken out.
func besideItem(v api.Value, at int) []api.Value {
	var out []api.Value
	for _, other := range beside(v.Items[at]) {
		w := value.Twin(v)
		w.Items[at] = other
		out = append(out, w)
	}
	if v.Kind == api.Object {
		less, _ := value.Without(v, v.Keys[at])
		out = append(out, less)
	}
	return out
}

// No other value is of the type Of a value that isn't too deep, has no object with too many keys, and arrays of the same items.
func TestP9_8NoOther(t *testing.T) {
	pick := random(89)
	all := specimen.WellShaped(pick, 300)
	for range 300 {
		v := exact(pick, 4)
		checkAlone(t, v, all)
		checkAlone(t, v, beside(v))
	}
	checkAlone(t, wide(12, num("1"), list(), text("x")), beside(wide(12, num("1"), list(), text("x"))))
	for deep := range 8 {
		for _, v := range []api.Value{boxed(list(), deep), boxed(js(`{"a":1,"b":["x","x"]}`), max(deep-1, 0)), specimen.Nested(num("5"), deep+1), specimen.Nested(object(nil), deep)} {
			checkAlone(t, v, beside(v))
			checkAlone(t, v, all)
		}
	}
}

func checkAlone(t *testing.T, v api.Value, others []api.Value) {
	t.Helper()
	got, _ := shape.Of(v)
	if value.Depth(v) > 8 || !specimen.In(v, got) {
		t.Errorf("%s isn't of %s", short(v), short(got))
	}
	for _, w := range others {
		if specimen.In(w, got) && !value.Same(v, w) {
			t.Errorf("%s is of the type of %s", short(w), short(v))
		}
	}
}

// Where one of these doesn't hold, others are of it too.
func TestP9_8Others(t *testing.T) {
	for _, row := range [][2]api.Value{
		{boxed(list(), 8), boxed(object(nil), 8)}, {wide(13, num("1")), object(nil)}, {js(`[1,2]`), js(`[3,3]`)},
	} {
		if got, _ := shape.Of(row[0]); !specimen.In(row[1], got) {
			t.Errorf("%v isn't of the type of %v", row[1], row[0])
		}
	}
}

// A value is of the type of some kinds just if its kind is among them.
func TestP9_8OfKinds(t *testing.T) {
	all := specimen.WellShaped(random(2), 200)
	for row := range 256 {
		of := shape.OfKinds(uint8(row))
		if !formedOf(of) || shape.Kinds(of) != uint8(row%128) {
			t.Errorf("OfKinds(%d) = %v", row, of)
		}
		for _, v := range all {
			if specimen.In(v, of) != (row>>v.Kind%2 == 1) {
				t.Errorf("%v and OfKinds(%d)", v, row)
			}
		}
	}
}

// Types stand in a row: by twos and by threes.
func TestP9_8Row(t *testing.T) {
	all := append(ladder(), specimen.WellShapedTypes(random(3), 60)...)
	sides := make([][]int, len(all))
	for i, a := range all {
		for j, b := range all {
			side := shape.Cmp(a, b)
			sides[i] = append(sides[i], side)
			if j <= i && side != -sides[j][i] {
				t.Errorf("Cmp of %v and %v, and back: %d, %d", a, b, side, sides[j][i])
			}
		}
	}
	for i := range all {
		for j := range all {
			for k := range all {
				if sides[i][j] <= 0 && sides[j][k] <= 0 && sides[i][k] > 0 {
					t.Errorf("%v, %v, %v", all[i], all[j], all[k])
				}
			}
		}
	}
}

// A well shaped type has no value just if it is never; so has each span, array and alternative in it.
func TestP9_1Values(t *testing.T) {
	pick := random(11)
	for _, a := range specimen.WellShapedTypes(pick, 1000) {
		v, ok := specimen.DrawnOf(a, pick, specimen.Kinds()...)
		if ok == isNever(a) || ok && !specimen.In(v, a) {
			t.Errorf("%v of %v", v, a)
		}
		if ok && shape.Kinds(a)>>v.Kind%2 == 0 {
			t.Errorf("%v is of %v, whose kinds are %d", v, a, shape.Kinds(a))
		}
	}
}

// The same calls at once, of the same things.
func TestSameness(t *testing.T) {
	types := specimen.WellShapedTypes(random(5), 50)
	values := specimen.WellShaped(random(5), 50)
	var group sync.WaitGroup
	for range 8 {
		group.Go(func() {
			for i, a := range types {
				check(t, a)
				checkCmp(t, a, types[(i*7+1)%len(types)])
			}
			for _, v := range values {
				if got, e := shape.Of(v); e != api.OK || !specimen.AlikeTypes(got, nearOf(v, 8)) {
					t.Errorf("Of(%v) = %v", v, got)
				}
			}
		})
	}
	group.Wait()
}

const deepest = 1<<16 - 2

// Types and values as deep as they may be.
func TestDeep(t *testing.T) {
	a := specimen.NestedType(null, deepest)
	b, bad := specimen.NestedType(every, deepest), specimen.NestedType(nums("5", "4"), deepest)
	if !shape.Formed(a) || shape.Formed(bad) || shape.Height(a) != deepest || shape.Kinds(a) == 0 {
		t.Error("a deep type")
	}
	if shape.Cmp(a, b) != -1 || shape.Cmp(b, a) != 1 || !shape.Same(a, shape.Twin(a)) || shape.Height(shape.Twin(bad)) != deepest {
		t.Error("deep types in order")
	}
	got, e := shape.Of(specimen.Nested(num("1"), deepest))
	if e != api.OK || shape.Height(got) != 8 || !shape.Formed(got) {
		t.Errorf("Of of a deep value: %v, %d", got, e)
	}
	if got, e := shape.Of(specimen.Nested(num("x"), deepest)); e != api.ErrShape || !specimen.AlikeTypes(got, never) {
		t.Errorf("Of of a deep value that isn't well shaped: %v, %d", got, e)
	}
}

// Long lists, in types and in values: none of the calls goes over them again and again.
func TestLong(t *testing.T) {
	const many = 1 << 17
	keys := names(many)
	a := texts(keys...)
	o := objOf(anyNumber, keys, slices.Repeat([]api.Type{arrays(null, 1, 2)}, many)...)
	b := objects(o, o, o)
	c := api.Type{Objects: slices.Repeat([]api.Obj{objOf(null, []string{"a!"}, every)}, many)}
	for _, long := range []api.Type{a, b, c, arrays(b, 0, -1)} {
		if !shape.Formed(long) || !shape.Same(long, shape.Twin(long)) {
			t.Error("a long type")
		}
	}
	if shape.Height(b) != 2 || shape.Kinds(b) != 64 || shape.Cmp(a, texts(keys[1:]...)) != -1 {
		t.Error("long types")
	}
	falling := slices.Clone(keys)
	falling[many-1] = ""
	if shape.Formed(texts(falling...)) {
		t.Error("texts that fall at the end")
	}
	row := js(`{"a":[1,2],"b":{"c":[[],[]]}}`)
	same := list(slices.Repeat([]api.Value{row}, many)...)
	other := list(append(slices.Clone(same.Items), js(`{"a":[1,2],"b":{"c":[[]]}}`))...)
	boxes := list()
	for range 64 {
		boxes.Items = append(boxes.Items, boxed(list(same.Items[:many/64]...), 4))
	}
	for _, v := range []api.Value{same, other, wide(many, row), boxed(same, 6), boxed(other, 5), boxes, boxed(boxes, 1)} {
		got, e := shape.Of(v)
		if e != api.OK || !specimen.AlikeTypes(got, nearOf(v, 8)) {
			t.Errorf("Of of a long value: %s, %d", short(got), e)
		}
	}
}

// FuzzAny holds all calls to the words, on types and values that are drawn by the bytes.
func FuzzAny(f *testing.F) {
	for _, s := range []string{"", "\x01\x00\x01\x02\x00\x03\x04\x01\x02\x01\x02\x00\x02\x01\x01\x01\x02", "\x02\x01\x01\x01\x01\x01\x00\x01\x00\x02\x07\x05\x04\x03\x02\x01\x06\x05\x04\x03\x02\x01"} {
		f.Add([]byte(s))
	}
	f.Fuzz(func(t *testing.T, data []byte) {
		pick := specimen.Picks(data)
		a := specimen.DrawnType(pick, 4)
		b := altered(shape.Twin(a), pick)
		check(t, a)
		check(t, b)
		check(t, specimen.SpoiltType(a, pick))
		if formedOf(b) {
			checkCmp(t, a, b)
		}
		checkCmp(t, a, specimen.DrawnType(pick, 4))
		v := specimen.Drawn(pick, 11)
		checkOf(t, v)
		checkHas(t, v)
	})
}
