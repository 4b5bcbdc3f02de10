package shape

import "hallmark/api"

// everyKind is the row of all kinds.
const everyKind uint8 = 1<<(api.Object+1) - 1

// OfKinds is the type of all values of some kinds: the bit of the value 1 << kind says whether a kind is among them.
func OfKinds(kinds uint8) api.Type {
	if kinds&everyKind == everyKind {
		return Every()
	}
	in := func(kind int) bool { return kinds&bit(kind) != 0 }
	out := api.Type{Null: in(api.Null), False: in(api.False), True: in(api.True), AnyText: in(api.Text)}
	if in(api.Number) {
		out.Nums = []api.Span{{}}
	}
	if in(api.Array) {
		out.Arrays = []api.Arr{{Item: Every(), Max: -1}}
	}
	if in(api.Object) {
		out.Objects = []api.Obj{{Rest: Every()}}
	}
	return out
}

// Kinds says of which kinds a type has values.
func Kinds(t api.Type) uint8 {
	if t.All {
		return everyKind
	}
	var row uint8
	whole := asked(t)
	for kind, has := range whole.has() {
		if has() {
			row |= bit(kind)
		}
	}
	return row
}

// bit is the row of one kind.
func bit(kind int) uint8 { return 1 << kind }

// has are what says whether a type has a piece of a kind, by the kind's number.
func (t *asked) has() [api.Object + 1]func() bool {
	return [...]func() bool{
		api.Null:   t.hasNull,
		api.False:  t.hasFalse,
		api.True:   t.hasTrue,
		api.Number: t.hasNumbers,
		api.Text:   t.hasTexts,
		api.Array:  t.hasArrays,
		api.Object: t.hasObjects,
	}
}

func (t *asked) hasNull() bool    { return t.Null }
func (t *asked) hasFalse() bool   { return t.False }
func (t *asked) hasTrue() bool    { return t.True }
func (t *asked) hasNumbers() bool { return len(t.Nums) > 0 }
func (t *asked) hasTexts() bool   { return t.AnyText || len(t.Texts) > 0 }
func (t *asked) hasArrays() bool  { return len(t.Arrays) > 0 }
func (t *asked) hasObjects() bool { return len(t.Objects) > 0 }
