package below_test

import (
	"fmt"
	"math/rand"
	"slices"

	"hallmark/api"
	"hallmark/specimen"
)

var (
	nums, texts, arrays, objects, objOf = specimen.Nums, specimen.Texts, specimen.Arrays, specimen.Objects, specimen.Obj
	never, every, null, truth           = api.Type{}, specimen.Every(), api.Type{Null: true}, api.Type{True: true}
	anyNumber, anyText, laid            = nums("", ""), api.Type{AnyText: true}, specimen.LaidOut()
)

func random(seed int64) specimen.Source { return rand.New(rand.NewSource(seed)).Intn }

// short is a text that can be read.
func short(what ...any) string {
	out := fmt.Sprint(what...)
	return out[:min(len(out), 500)]
}

// The chapter's words, said once more: which values are of a type specimen.In says.

// spanOf says whether a span lies in another one, by the numbers at and beside their bounds: where all of these that a has are in b, all others are.
func spanOf(a, b api.Span) bool {
	for _, n := range specimen.Besides(a, b) {
		if specimen.In(specimen.Num(n), api.Type{Nums: []api.Span{a}}) && !specimen.In(specimen.Num(n), api.Type{Nums: []api.Span{b}}) {
			return false
		}
	}
	return true
}

// belowOf is P12.2, word by word.
func belowOf(a, b api.Type) bool {
	if specimen.IsNever(a) || b.All {
		return true
	}
	a = specimen.ByKinds(a)
	if a.Null && !b.Null || a.False && !b.False || a.True && !b.True {
		return false
	}
	if len(a.Nums) > 0 && (len(b.Nums) == 0 || !spanOf(a.Nums[0], b.Nums[0])) {
		return false
	}
	if a.AnyText && !b.AnyText {
		return false
	}
	for _, text := range a.Texts {
		if !b.AnyText && !slices.Contains(b.Texts, text) {
			return false
		}
	}
	if len(a.Arrays) > 0 && (len(b.Arrays) == 0 || !arrBelowOf(a.Arrays[0], b.Arrays[0])) {
		return false
	}
	for _, x := range a.Objects {
		if !slices.ContainsFunc(b.Objects, func(y api.Obj) bool { return objBelowOf(x, y) }) {
			return false
		}
	}
	return true
}

func arrBelowOf(a, b api.Arr) bool {
	most := b.Max == -1 || a.Max >= 0 && a.Max <= b.Max
	return b.Min <= a.Min && most && (a.Max == 0 || belowOf(a.Item, b.Item))
}

func objBelowOf(a, b api.Obj) bool {
	for _, name := range specimen.NamesOf(a, b) {
		x, must := specimen.FieldOf(a, name)
		y, asked := specimen.FieldOf(b, name)
		if asked && !must || !belowOf(x, y) {
			return false
		}
	}
	return belowOf(a.Rest, b.Rest)
}

// allIn says whether each value of a type is of another one, no part of which has more than one alternative.
func allIn(a, b api.Type) bool {
	return !slices.ContainsFunc(specimen.Strays(a, b), func(v api.Value) bool { return !specimen.In(v, b) })
}
