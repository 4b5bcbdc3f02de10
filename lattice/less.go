package lattice

import (
	"slices"

	"hallmark/api"
	"hallmark/shape"
	"hallmark/tens"
)

// less is a type from which something is taken: all values of a kind, or one value of it.
type less api.Type

// only is what a type has of some kinds.
func only(t api.Type, kinds uint8) api.Type {
	if t.All {
		return shape.OfKinds(kinds)
	}
	left := less(t)
	for kind, drop := range dropping() {
		if kinds&(1<<kind) == 0 {
			drop(&left)
		}
	}
	return api.Type(left)
}

// dropping is what takes all values of a kind out of a type, by the kind's number.
func dropping() *[api.Object + 1]func(*less) {
	return &[...]func(*less){
		api.Null:   (*less).dropNull,
		api.False:  (*less).dropFalse,
		api.True:   (*less).dropTrue,
		api.Number: (*less).dropNumbers,
		api.Text:   (*less).dropTexts,
		api.Array:  (*less).dropArrays,
		api.Object: (*less).dropObjects,
	}
}

func (t *less) dropNull()    { t.Null = false }
func (t *less) dropFalse()   { t.False = false }
func (t *less) dropTrue()    { t.True = false }
func (t *less) dropNumbers() { t.Nums = nil }
func (t *less) dropTexts()   { t.AnyText, t.Texts = false, nil }
func (t *less) dropArrays()  { t.Arrays = nil }
func (t *less) dropObjects() { t.Objects = nil }

// minus is a type without a value, as far as types can say so.
func minus(t api.Type, v api.Value) api.Type {
	left := less(t)
	taking()[v.Kind](&left, v)
	return api.Type(left)
}

// taking is what takes one value out of a type, by the number of its kind.
func taking() *[api.Object + 1]func(*less, api.Value) {
	return &[...]func(*less, api.Value){
		api.Null:   (*less).takeKind,
		api.False:  (*less).takeKind,
		api.True:   (*less).takeKind,
		api.Number: (*less).takeNumber,
		api.Text:   (*less).takeText,
		api.Array:  (*less).takeArray,
		api.Object: (*less).takeObject,
	}
}

// takeKind takes a value that is the only one of its kind.
func (t *less) takeKind(v api.Value) {
	*t = less(only(api.Type(*t), ^(uint8(1) << v.Kind)))
}

// takeNumber takes a number at an end of the span: one between them can't be left out.
func (t *less) takeNumber(v api.Value) {
	if len(t.Nums) == 0 {
		return
	}
	left := t.Nums[0]
	switch v.Num {
	case left.Low:
		if left.Low == left.High {
			t.dropNumbers()
			return
		}
		left.Low, _ = tens.Add(left.Low, "1")
	case left.High:
		left.High, _ = tens.Sub(left.High, "1")
	}
	t.Nums = []api.Span{left}
}

func (t *less) takeText(v api.Value) {
	if at, found := slices.BinarySearch(t.Texts, v.Text); found {
		t.Texts = slices.Concat(t.Texts[:at], t.Texts[at+1:])
	}
}

// takeArray takes the array without items: of others types can't say that one isn't there.
func (t *less) takeArray(v api.Value) {
	if len(v.Items) > 0 || len(t.Arrays) == 0 || t.Arrays[0].Min > 0 {
		return
	}
	left := t.Arrays[0]
	if left.Max == 0 {
		t.dropArrays()
		return
	}
	left.Min = 1
	t.Arrays = []api.Arr{left}
}

// takeObject leaves all: types can't say that one object isn't there.
func (t *less) takeObject(api.Value) {}
