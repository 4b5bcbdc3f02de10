package below

import (
	"slices"

	"hallmark/api"
	"hallmark/shape"
)

// meet says whether two types have a value in common.
func meet(a, b *api.Type) bool {
	switch {
	case a.All:
		return some(b)
	case b.All:
		return some(a)
	}
	both := pair{a, b}
	return slices.ContainsFunc(meeting(), func(met func(pair) bool) bool { return met(both) })
}

// some says whether a type has a value at all.
func some(t *api.Type) bool { return shape.Kinds(*t) != 0 }

// meeting are what says of each kind whether two types have a value of it in common, the cheap ones first.
func meeting() []func(pair) bool {
	return []func(pair) bool{pair.flagsMeet, pair.numsMeet, pair.textsMeet, pair.arraysMeet, pair.objectsMeet}
}

func (p pair) flagsMeet() bool {
	return p.a.Null && p.b.Null || p.a.False && p.b.False || p.a.True && p.b.True
}

func (p pair) numsMeet() bool {
	if len(p.a.Nums) == 0 || len(p.b.Nums) == 0 {
		return false
	}
	x, y := p.a.Nums[0], p.b.Nums[0]
	return !above(x.Low, y.High) && !above(y.Low, x.High)
}

func (p pair) textsMeet() bool {
	switch {
	case p.a.AnyText:
		return p.b.AnyText || len(p.b.Texts) > 0
	case p.b.AnyText:
		return len(p.a.Texts) > 0
	}
	return slices.ContainsFunc(p.a.Texts, func(text string) bool { return among(text, p.b.Texts) })
}

// arraysMeet looks for the shortest array that both might have: a longer one asks the same of its items.
func (p pair) arraysMeet() bool {
	if len(p.a.Arrays) == 0 || len(p.b.Arrays) == 0 {
		return false
	}
	x, y := &p.a.Arrays[0], &p.b.Arrays[0]
	least := max(x.Min, y.Min)
	if tooLong(least, x.Max) || tooLong(least, y.Max) {
		return false
	}
	return least == 0 || meet(&x.Item, &y.Item)
}

// tooLong says whether an array has more items than a type allows.
func tooLong(items, most int) bool { return most >= 0 && items > most }

func (p pair) objectsMeet() bool {
	return anyOf(p.a.Objects, func(x *api.Obj) bool {
		return anyOf(p.b.Objects, func(y *api.Obj) bool { return objsMeet(x, y) })
	})
}

// objsMeet looks for the object with the fewest fields: one that neither must have can be left out, whatever its types.
func objsMeet(a, b *api.Obj) bool {
	return ofEachName(a, b, func(x, y field) bool { return !x.must && !y.must || meet(x.of, y.of) })
}
