package below

import (
	"slices"

	"hallmark/api"
	"hallmark/shape"
)

// lies says whether a type is known to lie in another one.
func lies(a, b *api.Type) bool {
	if b.All {
		return true
	}
	if a.All {
		a = laidOut()
	}
	both := pair{a, b}
	return !slices.ContainsFunc(lying(), func(held func(pair) bool) bool { return !held(both) })
}

// laidOut is every, told kind by kind.
func laidOut() *api.Type {
	every := shape.Every()
	return &api.Type{
		Null: true, False: true, True: true, Nums: []api.Span{{}}, AnyText: true,
		Arrays: []api.Arr{{Item: every, Max: -1}}, Objects: []api.Obj{{Rest: every}},
	}
}

// lying are what must hold of each kind where a type lies in another one, the cheap ones first. Of a type that is never they all hold.
func lying() []func(pair) bool {
	return []func(pair) bool{pair.flagsLie, pair.numsLie, pair.textsLie, pair.arraysLie, pair.objectsLie}
}

func (p pair) flagsLie() bool {
	return (!p.a.Null || p.b.Null) && (!p.a.False || p.b.False) && (!p.a.True || p.b.True)
}

func (p pair) numsLie() bool {
	return len(p.a.Nums) == 0 || len(p.b.Nums) > 0 && Span(p.a.Nums[0], p.b.Nums[0])
}

func (p pair) textsLie() bool {
	strange := func(text string) bool { return !among(text, p.b.Texts) }
	return p.b.AnyText || !p.a.AnyText && !slices.ContainsFunc(p.a.Texts, strange)
}

func (p pair) arraysLie() bool {
	if len(p.a.Arrays) == 0 || len(p.b.Arrays) == 0 {
		return len(p.a.Arrays) == 0
	}
	x, y := &p.a.Arrays[0], &p.b.Arrays[0]
	if y.Min > x.Min || y.Max >= 0 && (x.Max < 0 || x.Max > y.Max) {
		return false
	}
	return x.Max == 0 || lies(&x.Item, &y.Item)
}

// objectsLie asks each alternative for one that has all of its values: those that only several have together are passed over.
func (p pair) objectsLie() bool {
	alone := func(x *api.Obj) bool {
		return !anyOf(p.b.Objects, func(y *api.Obj) bool { return objLies(x, y) })
	}
	return !anyOf(p.a.Objects, alone)
}

func objLies(a, b *api.Obj) bool {
	fits := func(x, y field) bool { return (x.must || !y.must) && lies(x.of, y.of) }
	return ofEachName(a, b, fits) && lies(&a.Rest, &b.Rest)
}
