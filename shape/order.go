package shape

import (
	"cmp"
	"slices"

	"hallmark/api"
	"hallmark/tens"
)

// Cmp puts two types in order.
func Cmp(a, b api.Type) int {
	first := asked(a)
	for _, decide := range first.deciders() {
		if side := decide(b); side != 0 {
			return side
		}
	}
	return 0
}

// Same says whether two types are alike part by part.
func Same(a, b api.Type) bool { return Cmp(a, b) == 0 }

// deciders are what decides between a type and another one, the first of all first.
func (t *asked) deciders() [6]func(b api.Type) int {
	return [...]func(b api.Type) int{t.byFlags, t.byNums, t.byAnyText, t.byTexts, t.byArrays, t.byObjects}
}

func (t *asked) byFlags(b api.Type) int {
	return cmp.Or(bySet(t.All, b.All), bySet(t.Null, b.Null), bySet(t.False, b.False), bySet(t.True, b.True))
}

func (t *asked) byNums(b api.Type) int { return slices.CompareFunc(t.Nums, b.Nums, bySpan) }

func (t *asked) byAnyText(b api.Type) int { return bySet(t.AnyText, b.AnyText) }

func (t *asked) byTexts(b api.Type) int { return slices.Compare(t.Texts, b.Texts) }

func (t *asked) byArrays(b api.Type) int { return slices.CompareFunc(t.Arrays, b.Arrays, byArr) }

func (t *asked) byObjects(b api.Type) int { return slices.CompareFunc(t.Objects, b.Objects, byObj) }

// bySet puts what isn't set ahead.
func bySet(a, b bool) int {
	switch {
	case a == b:
		return 0
	case b:
		return -1
	}
	return 1
}

func bySpan(a, b api.Span) int {
	return cmp.Or(byBound(a.Low, b.Low, -1), byBound(a.High, b.High, 1))
}

// byBound holds two bounds of one end against each other; one that isn't there lies beyond all numbers, on the side of its end.
func byBound(a, b string, end int) int {
	switch {
	case a == b:
		return 0
	case a == "":
		return end
	case b == "":
		return -end
	}
	side, _ := tens.Cmp(a, b)
	return side
}

func byArr(a, b api.Arr) int {
	if side := cmp.Or(cmp.Compare(a.Min, b.Min), byMax(a.Max, b.Max)); side != 0 {
		return side
	}
	return Cmp(a.Item, b.Item)
}

// byMax puts -1 last: as a number without sign it is the greatest.
func byMax(a, b int) int { return cmp.Compare(uint(a), uint(b)) }

// byObj goes inside the fields only where names and musts don't decide.
func byObj(a, b api.Obj) int {
	if side := cmp.Or(slices.Compare(a.Names, b.Names), slices.CompareFunc(a.Must, b.Must, bySet)); side != 0 {
		return side
	}
	if side := slices.CompareFunc(a.Fields, b.Fields, Cmp); side != 0 {
		return side
	}
	return Cmp(a.Rest, b.Rest)
}
