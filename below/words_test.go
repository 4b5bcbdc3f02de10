package below_test

import (
	"fmt"
	"math/big"
	"math/rand"
	"slices"

	"hallmark/api"
	"hallmark/specimen"
)

var (
	num, text, list, object, kind       = specimen.Num, specimen.Text, specimen.List, specimen.Object, specimen.Kind
	nums, texts, arrays, objects, objOf = specimen.Nums, specimen.Texts, specimen.Arrays, specimen.Objects, specimen.Obj
	never, every, null, truth           = api.Type{}, specimen.Every(), api.Type{Null: true}, api.Type{True: true}
	anyNumber, anyText, laid            = nums("", ""), api.Type{AnyText: true}, specimen.LaidOut()
)

func random(seed int64) specimen.Source { return rand.New(rand.NewSource(seed)).Intn }

// short is a text that can be read.
func short(what ...any) string {
	out := fmt.Sprint(what...)
	return out[:min(len(out), 500)]
}

func isNever(a api.Type) bool { return specimen.AlikeTypes(a, never) }

// laidOut is a type kind by kind.
func laidOut(a api.Type) api.Type {
	if a.All {
		return laid
	}
	return a
}

// The chapter's words, said once more: which values are of a type specimen.In says.

// spanOf says whether a span lies in another one, by the numbers at and beside their bounds: where all of these that a has are in b, all others are.
func spanOf(a, b api.Span) bool {
	for _, n := range besides(a, b) {
		if specimen.In(num(n), api.Type{Nums: []api.Span{a}}) && !specimen.In(num(n), api.Type{Nums: []api.Span{b}}) {
			return false
		}
	}
	return true
}

// besides are the numbers at the bounds of spans, next to them and far out.
func besides(spans ...api.Span) []string {
	const far = "1000000000000000000000000000000000000000000000000000000000000"
	out := []string{"0", far, "-" + far}
	for _, span := range spans {
		for _, bound := range []string{span.Low, span.High} {
			if n, ok := new(big.Int).SetString(bound, 10); ok {
				out = append(out, bound, new(big.Int).Add(n, big.NewInt(1)).String(), new(big.Int).Sub(n, big.NewInt(1)).String())
			}
		}
	}
	return out
}

// belowOf is P12.2, word by word.
func belowOf(a, b api.Type) bool {
	if isNever(a) || b.All {
		return true
	}
	a = laidOut(a)
	if a.Null && !b.Null || a.False && !b.False || a.True && !b.True {
		return false
	}
	if len(a.Nums) > 0 && (len(b.Nums) == 0 || !spanOf(a.Nums[0], b.Nums[0])) {
		return false
	}
	if a.AnyText && !b.AnyText {
		return false
	}
	for _, text := range a.Texts {
		if !b.AnyText && !slices.Contains(b.Texts, text) {
			return false
		}
	}
	if len(a.Arrays) > 0 && (len(b.Arrays) == 0 || !arrBelowOf(a.Arrays[0], b.Arrays[0])) {
		return false
	}
	for _, x := range a.Objects {
		if !slices.ContainsFunc(b.Objects, func(y api.Obj) bool { return objBelowOf(x, y) }) {
			return false
		}
	}
	return true
}

func arrBelowOf(a, b api.Arr) bool {
	most := b.Max == -1 || a.Max >= 0 && a.Max <= b.Max
	return b.Min <= a.Min && most && (a.Max == 0 || belowOf(a.Item, b.Item))
}

func objBelowOf(a, b api.Obj) bool {
	for _, name := range rising(a, b) {
		x, must := fieldOf(a, name)
		y, asked := fieldOf(b, name)
		if asked && !must || !belowOf(x, y) {
			return false
		}
	}
	return belowOf(a.Rest, b.Rest)
}

// fieldOf is an alternative's field of a name.
func fieldOf(o api.Obj, name string) (api.Type, bool) {
	if at := slices.Index(o.Names, name); at >= 0 {
		return o.Fields[at], o.Must[at]
	}
	return o.Rest, false
}

// someOf is a value of a type that isn't never.
func someOf(a api.Type) api.Value {
	v, _ := specimen.DrawnOf(a, specimen.Picks(nil), specimen.Kinds()...)
	return v
}

// listOf is an array of the type, if it can be made of this one item: with no fewer items than asked for.
func listOf(a api.Arr, least int, item api.Value) api.Value {
	return list(slices.Repeat([]api.Value{item}, max(a.Min, least))...)
}

// objectOf is an object of an alternative with the fields that must be there, and these others.
func objectOf(o api.Obj, names []string, items ...api.Value) api.Value {
	of := map[string]api.Value{}
	for i, name := range o.Names {
		if o.Must[i] {
			of[name] = someOf(o.Fields[i])
		}
	}
	for i, name := range names {
		of[name] = items[i]
	}
	out := object(nil)
	for name := range of {
		out.Keys = append(out.Keys, name)
	}
	slices.Sort(out.Keys)
	for _, name := range out.Keys {
		out.Items = append(out.Items, of[name])
	}
	return out
}

// fresh is a text that isn't among others.
func fresh(texts ...string) string {
	out := "x"
	for slices.Contains(texts, out) {
		out += "x"
	}
	return out
}

// strays are values of a type, among them one that isn't of the other type, if there is such a value and no part of the other one has more than one alternative.
func strays(a, b api.Type) []api.Value {
	if isNever(a) || b.All {
		return nil
	}
	a = laidOut(a)
	out := []api.Value{kind(api.Null), kind(api.False), kind(api.True)}
	if len(a.Nums) > 0 {
		for _, n := range besides(slices.Concat(a.Nums, b.Nums)...) {
			out = append(out, num(n))
		}
	}
	out = append(out, text(fresh(b.Texts...)))
	for _, s := range a.Texts {
		out = append(out, text(s))
	}
	for _, x := range a.Arrays {
		out = append(out, strayLists(x, b)...)
	}
	for _, x := range a.Objects {
		out = append(out, strayObjects(x, b)...)
	}
	return slices.DeleteFunc(out, func(v api.Value) bool { return !specimen.In(v, a) })
}

func strayLists(x api.Arr, b api.Type) []api.Value {
	some := someOf(x.Item)
	out := []api.Value{listOf(x, 0, some)}
	for _, y := range b.Arrays {
		out = append(out, listOf(x, y.Max+1, some))
		for _, item := range strays(x.Item, y.Item) {
			out = append(out, listOf(x, 1, item))
		}
	}
	return out
}

func strayObjects(x api.Obj, b api.Type) []api.Value {
	out := []api.Value{objectOf(x, nil)}
	for _, y := range b.Objects {
		names := rising(x, y)
		for _, name := range append(names, fresh(names...)) {
			of, _ := fieldOf(x, name)
			other, _ := fieldOf(y, name)
			for _, item := range strays(of, other) {
				if !specimen.In(item, other) {
					out = append(out, objectOf(x, []string{name}, item))
					break
				}
			}
		}
	}
	return out
}

// allIn says whether each value of a type is of another one, no part of which has more than one alternative.
func allIn(a, b api.Type) bool {
	return !slices.ContainsFunc(strays(a, b), func(v api.Value) bool { return !specimen.In(v, b) })
}

// commonOf is a value of two types, if there is one.
func commonOf(a, b api.Type) (api.Value, bool) {
	if isNever(a) || isNever(b) {
		return api.Value{}, false
	}
	if a.All || b.All {
		if a.All {
			a = b
		}
		return someOf(a), true
	}
	for _, candidates := range []func(a, b api.Type) []api.Value{plainOnes, commonLists, commonObjects} {
		for _, v := range candidates(a, b) {
			if specimen.In(v, a) && specimen.In(v, b) {
				return v, true
			}
		}
	}
	return api.Value{}, false
}

// plainOnes are values without items: one of each sort that two types may have in common.
func plainOnes(a, b api.Type) []api.Value {
	out := []api.Value{kind(api.Null), kind(api.False), kind(api.True), text(""), list(), object(nil)}
	for _, s := range slices.Concat(a.Texts, b.Texts) {
		out = append(out, text(s))
	}
	if len(a.Nums) > 0 && len(b.Nums) > 0 {
		for _, n := range besides(a.Nums[0], b.Nums[0]) {
			out = append(out, num(n))
		}
	}
	return out
}

func commonLists(a, b api.Type) []api.Value {
	var out []api.Value
	for _, x := range a.Arrays {
		for _, y := range b.Arrays {
			if item, ok := commonOf(x.Item, y.Item); ok {
				out = append(out, listOf(x, y.Min, item))
			}
		}
	}
	return out
}

func commonObjects(a, b api.Type) []api.Value {
	var out []api.Value
	for _, x := range a.Objects {
		for _, y := range b.Objects {
			out = append(out, commonObject(x, y))
		}
	}
	return out
}

// commonObject has a field of each name of two alternatives that one of them asks for, if they have a value in common for it.
func commonObject(x, y api.Obj) api.Value {
	v := object(nil)
	for _, name := range rising(x, y) {
		of, must := fieldOf(x, name)
		other, asked := fieldOf(y, name)
		if !must && !asked {
			continue
		}
		if item, ok := commonOf(of, other); ok {
			v.Keys, v.Items = append(v.Keys, name), append(v.Items, item)
		}
	}
	return v
}

// rising are the names of two alternatives.
func rising(a, b api.Obj) []string {
	out := slices.Concat(a.Names, b.Names)
	slices.Sort(out)
	return slices.Compact(out)
}
