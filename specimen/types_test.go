package specimen_test

import (
	"math/rand"
	"testing"

	"hallmark/api"
	"hallmark/shape"
	"hallmark/specimen"
)

// bare is a type with something in each kind of list.
func bare() api.Type {
	inner := specimen.Objects(specimen.Obj(specimen.Texts("r"), []string{"a!", "b"}, specimen.Nums("1", "2"), specimen.Arrays(api.Type{}, 0, 0)))
	return api.Type{Null: true, Nums: []api.Span{{}}, Texts: []string{"x", "y"}, Arrays: []api.Arr{{Item: inner, Max: 3}}, Objects: []api.Obj{{}, {Rest: specimen.Every()}}}
}

func madeType() api.Type { return specimen.RoomyType(bare()) }

// innermost is the alternative inside madeType.
func innermost(t api.Type) *api.Obj { return &t.Arrays[0].Item.Objects[0] }

// What is written anywhere into a roomy type is seen.
func TestUntouchedType(t *testing.T) {
	if !specimen.UntouchedType(madeType(), bare()) || !specimen.AlikeTypes(madeType(), bare()) {
		t.Fatal("touched by nobody")
	}
	for i, write := range []func(t api.Type){
		func(t api.Type) { t.Nums[0].Low = "1" },
		func(t api.Type) { t.Texts[1] = "z" },
		func(t api.Type) { t.Arrays[0].Min = 1 },
		func(t api.Type) { t.Arrays[0].Max = 2 },
		func(t api.Type) { t.Arrays[0].Item.Null = true },
		func(t api.Type) { t.Objects[1].Rest.All = false },
		func(t api.Type) { innermost(t).Names[0] = "" },
		func(t api.Type) { innermost(t).Must[1] = true },
		func(t api.Type) { innermost(t).Fields[0].Nums[0].High = "3" },
		func(t api.Type) { innermost(t).Fields[1].Arrays[0].Item.True = true },
		func(t api.Type) { innermost(t).Rest.Texts[0] = "" },
		func(t api.Type) { _ = append(t.Nums, api.Span{}) },
		func(t api.Type) { _ = append(t.Texts, "spare", "") },
		func(t api.Type) { _ = append(t.Arrays, api.Arr{}) },
		func(t api.Type) { _ = append(t.Objects, api.Obj{}) },
		func(t api.Type) { _ = append(t.Objects[0].Must, false) },
		func(t api.Type) { _ = append(innermost(t).Names, "") },
		func(t api.Type) { _ = append(innermost(t).Must, true, true) },
		func(t api.Type) { _ = append(innermost(t).Fields, api.Type{}) },
		func(t api.Type) { _ = append(innermost(t).Rest.Nums, api.Span{}) },
	} {
		made := madeType()
		write(made)
		if specimen.UntouchedType(made, bare()) {
			t.Errorf("what write %d does isn't seen", i)
		}
		if i <= 10 && specimen.AlikeTypes(made, bare()) {
			t.Errorf("what write %d makes different isn't seen", i)
		}
	}
}

// What shares a place with another list, or within itself, isn't its own.
func TestOwnType(t *testing.T) {
	a, b := madeType(), madeType()
	if !specimen.OwnType(a) || !specimen.OwnType(a, b) || specimen.OwnType(a, b, a) {
		t.Fatal("two types that share nothing")
	}
	inner := innermost(a)
	shares := []api.Type{
		{Nums: a.Nums}, {Nums: a.Nums[:0]}, {Texts: a.Texts[1:]}, {Texts: a.Texts[:0]}, {Arrays: a.Arrays}, {Arrays: a.Arrays[:0]}, {Objects: a.Objects[1:]}, {Objects: a.Objects[:0]}, a.Arrays[0].Item,
		specimen.Objects(api.Obj{Names: inner.Names[1:]}), specimen.Objects(api.Obj{Must: inner.Must[:1]}), specimen.Objects(api.Obj{Fields: inner.Fields[1:]}), specimen.Objects(api.Obj{Rest: inner.Rest}), inner.Fields[0], {Texts: inner.Names},
	}
	for i, share := range shares {
		if specimen.OwnType(share, b, a) || specimen.OwnType(specimen.Arrays(share, 0, -1), a) || specimen.OwnType(specimen.Objects(specimen.Obj(share, []string{"a"}, share))) {
			t.Errorf("what type %d shares isn't seen", i)
		}
	}
	v := specimen.Object(inner.Names, api.Value{}, api.Value{})
	if specimen.PlacesOfTypes(a).Apart(specimen.PlacesOf(v)) || !specimen.PlacesOfTypes(b).Apart(specimen.PlacesOf(v)) {
		t.Error("what a type shares with a value")
	}
	if !specimen.UntouchedType(a, bare()) || !specimen.UntouchedType(b, bare()) {
		t.Errorf("changed: %v, %v", a, b)
	}
}

func TestScribbleType(t *testing.T) {
	a := madeType()
	inner := *innermost(a)
	specimen.ScribbleType(a)
	if a.Nums[0].Low != "scribbled" || a.Texts[1] != "scribbled" || a.Arrays[0].Min != 99 || len(a.Objects[0].Names) != 1 || inner.Names[1] != "scribbled" || !inner.Must[1] || len(inner.Fields[1].Texts) != 1 || inner.Rest.Texts[0] != "scribbled" {
		t.Errorf("%v, %v", a, inner)
	}
	if a.Texts[:cap(a.Texts)][3] != "scribbled" || inner.Must[:cap(inner.Must)][3] != true {
		t.Errorf("the room behind: %v, %v", a, inner)
	}
}

// The same choices make the same type, and where they end the type does.
func TestPicksOfType(t *testing.T) {
	data := []byte("\x01\x00\x01\x02\x00\x03\x04\x01\x02\x01\x02\x00\x02\x01\x01\x01\x02\x01\x03\x02\x01\x00\x01\x02abc")
	a, b := specimen.DrawnType(specimen.Picks(data), 4), specimen.DrawnType(specimen.Picks(data), 4)
	if len(a.Arrays)+len(a.Objects) == 0 || !specimen.AlikeTypes(a, b) {
		t.Errorf("%v, and %v", a, b)
	}
}

// Values on both sides of each bound of a type.
func TestIn(t *testing.T) {
	null, one := api.Value{}, specimen.Num("1")
	a := api.Type{True: true, Nums: []api.Span{{Low: "-2", High: "10"}}, Texts: []string{"a"}, Arrays: []api.Arr{{Item: api.Type{Null: true}, Min: 1, Max: 2}}}
	a.Objects = []api.Obj{specimen.Obj(api.Type{}, []string{"a!", "b"}, api.Type{Null: true}, specimen.Every()), specimen.Obj(specimen.Nums("", ""), nil)}
	ab := []string{"a", "b"}
	in := []api.Value{specimen.Kind(api.True), specimen.Num("-2"), specimen.Num("10"), specimen.Text("a"), specimen.List(null), specimen.List(null, null), specimen.Object(ab[:1], null), specimen.Object(ab, null, null), specimen.Object(nil), specimen.Object([]string{"c"}, one), specimen.Object(ab, one, one)}
	out := []api.Value{null, specimen.Kind(api.False), specimen.Num("-3"), specimen.Num("11"), specimen.Text("b"), specimen.List(), specimen.List(null, null, null), specimen.List(null, one), specimen.Object(ab[1:], null), specimen.Object(ab, one, null), specimen.Object([]string{"a", "c"}, null, one)}
	for _, v := range in {
		if !specimen.In(v, a) || specimen.In(v, api.Type{}) {
			t.Errorf("%v", v)
		}
	}
	for _, v := range out {
		if specimen.In(v, a) || !specimen.In(v, specimen.Every()) {
			t.Errorf("%v", v)
		}
	}
}

// What is drawn of a type is of it, and of the kinds that are asked for; and each kind that it has is drawn.
func TestDrawnOf(t *testing.T) {
	pick := specimen.Source(rand.New(rand.NewSource(5)).Intn)
	for _, a := range specimen.WellShapedTypes(pick, 500) {
		for _, kind := range specimen.Kinds() {
			v, ok := specimen.DrawnOf(a, pick, kind)
			if ok && (v.Kind != kind || !specimen.In(v, a)) {
				t.Errorf("%v of %v", v, a)
			}
		}
		v, ok := specimen.DrawnOf(a, pick, specimen.Kinds()...)
		if ok == specimen.AlikeTypes(a, api.Type{}) || ok && !specimen.In(v, a) {
			t.Errorf("%v of %v", v, a)
		}
	}
}

// What is nudged is well shaped, most often another type, and what it was made of stays as it was.
func TestNudgedType(t *testing.T) {
	pick := specimen.Source(rand.New(rand.NewSource(6)).Intn)
	others := 0
	for _, a := range specimen.WellShapedTypes(pick, 3000) {
		given := specimen.RoomyType(a)
		b := specimen.NudgedType(given, pick)
		if !shape.Formed(b) || !specimen.UntouchedType(given, a) {
			t.Errorf("%v, nudged: %v", a, b)
		}
		if !specimen.AlikeTypes(a, b) {
			others++
		}
	}
	if others < 2000 {
		t.Errorf("%d were changed", others)
	}
}

// Of several alternatives the first one stays, in each part.
func TestSingle(t *testing.T) {
	null := api.Type{Null: true}
	two := func(in api.Type) api.Type {
		return specimen.Objects(specimen.Obj(in, []string{"a!"}, in), specimen.Obj(null, nil))
	}
	one := func(in api.Type) api.Type { return specimen.Objects(specimen.Obj(in, []string{"a!"}, in)) }
	given := two(specimen.Arrays(two(null), 1, 1))
	if got := specimen.Single(given); !specimen.AlikeTypes(got, one(specimen.Arrays(one(null), 1, 1))) || len(given.Objects) != 2 {
		t.Errorf("%v", got)
	}
}

// What is looked for is of the first type, and one that isn't of the second is found, where there is one.
func TestStrays(t *testing.T) {
	null := api.Type{Null: true}
	stray := func(a, b api.Type) bool {
		found := false
		for _, v := range specimen.Strays(a, b) {
			if !specimen.In(v, a) {
				t.Errorf("%v isn't of %s", v, specimen.Told(a))
			}
			found = found || !specimen.In(v, b)
		}
		return found
	}
	small, wide := specimen.Nums("1", "2"), specimen.Nums("", "2")
	for i, two := range [][2]api.Type{{small, wide}, {null, {Null: true, True: true}}, {specimen.Texts("a"), specimen.Texts("a", "b")}, {specimen.Arrays(small, 1, 2), specimen.Arrays(wide, 0, 2)}, {specimen.Objects(specimen.Obj(api.Type{}, []string{"a!"}, small)), specimen.Objects(specimen.Obj(api.Type{}, []string{"a"}, wide))}, {{}, null}, {null, specimen.Every()}} {
		if stray(two[0], two[1]) || !stray(two[1], two[0]) {
			t.Errorf("%d: %s, %s", i, specimen.Told(two[0]), specimen.Told(two[1]))
		}
	}
}

// What is common to two types is of both.
func TestCommonOf(t *testing.T) {
	pick := specimen.Source(rand.New(rand.NewSource(7)).Intn)
	all := specimen.WellShapedTypes(pick, 20)
	found := 0
	for _, a := range all {
		for _, b := range all {
			if v, ok := specimen.CommonOf(a, b); ok {
				found++
				if !specimen.In(v, a) || !specimen.In(v, b) {
					t.Errorf("%v of %s and %s", v, specimen.Told(a), specimen.Told(b))
				}
			}
		}
	}
	if found < 1000 {
		t.Errorf("%d pairs had something in common", found)
	}
}

// Crowded types are well shaped, and many have more than a normal form has.
func TestCrowdedType(t *testing.T) {
	pick := specimen.Source(rand.New(rand.NewSource(8)).Intn)
	var beyond [3]int
	for range 1000 {
		a := specimen.CrowdedType(pick, 2)
		if !shape.Formed(a) || shape.Height(a) > 2 {
			t.Errorf("%s", specimen.Told(a))
		}
		for i, is := range []bool{len(a.Texts) > 16, len(a.Objects) > 4, len(a.Objects) > 0 && len(a.Objects[0].Names) > 12} {
			if is {
				beyond[i]++
			}
		}
	}
	if min(beyond[0], beyond[1], beyond[2]) < 30 {
		t.Errorf("beyond the limits: %v", beyond)
	}
}

func TestTold(t *testing.T) {
	a := api.Type{Null: true, Nums: []api.Span{{Low: "1"}}, Texts: []string{"x"}, Arrays: []api.Arr{{Item: specimen.Every(), Max: -1}}, Objects: []api.Obj{specimen.Obj(api.Type{}, []string{"a!", "b"}, api.Type{True: true}, api.Type{AnyText: true})}}
	if got := specimen.Told(a); got != `{null 1.. "x" [0--1 every] O(a! true, b text | {})}` {
		t.Errorf("%s", got)
	}
	if got := specimen.Told(specimen.Objects(api.Obj{Names: []string{"a"}})); got != "O(a | {})" {
		t.Errorf("%s", got)
	}
}

// Types at the limits of a normal form, and just beyond each of them, at the top and inside.
func TestInLimits(t *testing.T) {
	null, never := api.Type{Null: true}, api.Type{}
	wide := func(many int) api.Type { return specimen.Objects(specimen.Wide(many, null, true, never)) }
	alternatives := func(many int) api.Type {
		return specimen.Objects(make([]api.Obj, many)...)
	}
	full := specimen.Objects(specimen.Wide(12, wide(12), true, never))
	for i, r := range []struct {
		a     api.Type
		is    bool
		parts int
	}{
		{never, true, 1}, {specimen.Every(), true, 1}, {specimen.Texts(specimen.Named(16)...), true, 1}, {specimen.Texts(specimen.Named(17)...), false, 1}, {wide(12), true, 14}, {wide(13), false, 15}, {alternatives(4), true, 5}, {alternatives(5), false, 6}, {specimen.Nest(null, 8), true, 9}, {specimen.Nest(null, 9), false, 10}, {full, true, 170}, {specimen.Arrays(full, 0, -1), true, 171}, {specimen.Objects(full.Objects[0], specimen.Wide(12, specimen.Objects(api.Obj{}), true, never)), true, 195}, {specimen.Objects(full.Objects[0], full.Objects[0]), false, 339},
	} {
		if specimen.InLimits(r.a) != r.is || specimen.PartsOf(r.a) != r.parts {
			t.Errorf("%d: %v, %d parts", i, specimen.InLimits(r.a), specimen.PartsOf(r.a))
		}
		if around := specimen.Objects(specimen.Obj(never, []string{"a"}, r.a)); i < 8 && specimen.InLimits(around) != r.is {
			t.Errorf("%d, inside", i)
		}
	}
}

// What is shuffled has the same values, other places and some alternatives twice; what it was made of stays as it was.
func TestShuffled(t *testing.T) {
	pick := specimen.Source(rand.New(rand.NewSource(9)).Intn)
	others := 0
	for _, a := range specimen.WellShapedTypes(pick, 300) {
		given := specimen.RoomyType(a)
		b := specimen.Shuffled(given, pick)
		if !shape.Formed(b) || !specimen.UntouchedType(given, a) || len(b.Objects) != len(a.Objects)+min(len(a.Objects), 1) {
			t.Errorf("%s, shuffled: %s", specimen.Told(a), specimen.Told(b))
		}
		if len(a.Objects) > 1 && !specimen.AlikeTypes(specimen.Objects(b.Objects[:len(a.Objects)]...), specimen.Objects(a.Objects...)) {
			others++
		}
		for range 5 {
			if v, ok := specimen.DrawnOf(a, pick, specimen.Kinds()...); ok && !specimen.In(v, b) {
				t.Errorf("%v isn't of %s any more", v, specimen.Told(b))
			}
		}
	}
	if others < 50 {
		t.Errorf("%d have another order", others)
	}
}

// A value of one type alone is found, where there is one.
func TestFoundStray(t *testing.T) {
	pick := specimen.Source(rand.New(rand.NewSource(10)).Intn)
	for _, a := range specimen.WellShapedTypes(pick, 100) {
		if v, found := specimen.FoundStray(a, a, pick); found {
			t.Errorf("%v of %s", v, specimen.Told(a))
		}
		v, found := specimen.FoundStray(specimen.Every(), a, pick)
		if found && specimen.In(v, a) || !found && shape.Kinds(a) != 127 {
			t.Errorf("%v, %v of %s", v, found, specimen.Told(a))
		}
	}
}
