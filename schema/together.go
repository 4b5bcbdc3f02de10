package schema

import (
	"hallmark/api"
	"hallmark/below"
	"hallmark/shape"
	"hallmark/tens"
)

// buildAnyOf puts the types of all documents together, from the first on. Texts are put in order behind the last one: whether types can be put together doesn't hang on them.
func (p *part) buildAnyOf() (built, bool) {
	out := flat(shape.Never())
	for _, one := range p.either {
		if one.All {
			return one, true
		}
		if !out.add(one) {
			return out, false
		}
	}
	out.Texts = rising(out.Texts)
	if out.AnyText {
		out.Texts = nil
	}
	return out, true
}

// add puts another type to this one, neither being every; it says whether a type can say both.
func (b *built) add(one built) bool {
	b.Null, b.False, b.True = b.Null || one.Null, b.False || one.False, b.True || one.True
	b.AnyText = b.AnyText || one.AnyText
	b.Texts = append(b.Texts, one.Texts...)
	b.Objects, b.field = append(b.Objects, one.Objects...), max(b.field, one.field)
	return b.addNums(one) && b.addArrays(one)
}

func (b *built) addNums(one built) bool {
	if len(one.Nums) == 0 {
		return true
	}
	if len(b.Nums) == 0 {
		b.Nums = one.Nums
		return true
	}
	x, y := b.Nums[0], one.Nums[0]
	b.Nums = []api.Span{{Low: farther(x.Low, y.Low, -1), High: farther(x.High, y.High, 1)}}
	return spanReaches(x, y) && spanReaches(y, x)
}

// spanReaches says whether no number stands between a span and another one that lies above it.
func spanReaches(x, y api.Span) bool {
	next, _ := tens.Add(x.High, "1") // of a bound that isn't there there is none
	return !above(y.Low, next)
}

// farther is that one of two bounds which lies farther on a side: -1 for the lesser one, 1 for the greater one. None lies farthest.
func farther(a, b string, side int) string {
	switch {
	case a == "" || b == "":
		return ""
	case worth(a, b) == side:
		return a
	}
	return b
}

// addArrays asks first what lies in what: where there are no arrays on one side, they lie in those of the other one.
func (b *built) addArrays(one built) bool {
	was, more := api.Type{Arrays: b.Arrays}, api.Type{Arrays: one.Arrays}
	switch {
	case below.Below(was, more):
		b.Arrays, b.item = one.Arrays, one.item
		return true
	case below.Below(more, was):
		return true
	}
	x, y := b.Arrays[0], one.Arrays[0]
	b.Arrays = []api.Arr{{Item: x.Item, Min: min(x.Min, y.Min), Max: longer(x.Max, y.Max)}}
	return shape.Same(x.Item, y.Item) && countReaches(x, y) && countReaches(y, x)
}

// countReaches says whether no number of items stands between those of arrays and those of others that have more.
func countReaches(x, y api.Arr) bool { return x.Max < 0 || x.Max >= y.Min-1 }

// longer is the greater one of two numbers of items; -1 is no bound.
func longer(a, b int) int {
	if a < 0 || b < 0 {
		return -1
	}
	return max(a, b)
}
