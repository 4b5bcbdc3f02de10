package member_test

import (
	"fmt"
	"math/rand"
	"slices"
	"strconv"

	"hallmark/api"
	"hallmark/member"
	"hallmark/reader"
	"hallmark/specimen"
)

var (
	num, text, list, object, kind       = specimen.Num, specimen.Text, specimen.List, specimen.Object, specimen.Kind
	nums, texts, arrays, objects, objOf = specimen.Nums, specimen.Texts, specimen.Arrays, specimen.Objects, specimen.Obj
	never, every, null                  = api.Type{}, specimen.Every(), api.Type{Null: true}
	anyNumber, anyText                  = nums("", ""), api.Type{AnyText: true}
)

func random(seed int64) specimen.Source { return rand.New(rand.NewSource(seed)).Intn }

// js is the value of a text of JSON.
func js(s string) api.Value {
	v, e, _ := reader.One(s)
	if e != api.OK {
		panic(s)
	}
	return v
}

// short is a text that can be read.
func short(what ...any) string {
	out := fmt.Sprint(what...)
	return out[:min(len(out), 500)]
}

// alikeWays says whether two ways are so, step by step.
func alikeWays(a, b []api.Value) bool { return slices.EqualFunc(a, b, specimen.Alike) }

// The chapter's words, said once more: which values are of a type specimen.In says.

// whyOf is the first reason why a value isn't of a type, and the way to it.
func whyOf(v api.Value, a api.Type) ([]api.Value, int) {
	if specimen.In(v, a) {
		return nil, member.Fits
	}
	if _, some := specimen.DrawnOf(a, specimen.Picks(nil), v.Kind); !some {
		return nil, member.Kind
	}
	switch v.Kind {
	case api.Number:
		return nil, member.Bound
	case api.Text:
		return nil, member.Word
	case api.Array:
		return whyOfArray(v, a.Arrays[0])
	}
	if len(a.Objects) > 1 {
		return nil, member.NoneOf
	}
	return whyOfObject(v, a.Objects[0])
}

func whyOfArray(v api.Value, a api.Arr) ([]api.Value, int) {
	if len(v.Items) < a.Min {
		return nil, member.Few
	}
	if a.Max >= 0 && len(v.Items) > a.Max {
		return nil, member.Many
	}
	at := slices.IndexFunc(v.Items, func(item api.Value) bool { return !specimen.In(item, a.Item) })
	way, reason := whyOf(v.Items[at], a.Item)
	return append([]api.Value{num(strconv.Itoa(at))}, way...), reason
}

func whyOfObject(v api.Value, o api.Obj) ([]api.Value, int) {
	for i, name := range o.Names {
		if o.Must[i] && !slices.Contains(v.Keys, name) {
			return []api.Value{text(name)}, member.Lacks
		}
	}
	for i, key := range v.Keys {
		of := o.Rest
		if at := slices.Index(o.Names, key); at >= 0 {
			of = o.Fields[at]
		}
		if way, reason := whyOf(v.Items[i], of); reason != member.Fits {
			return append([]api.Value{text(key)}, way...), reason
		}
	}
	panic("each field is of its type")
}

// stepOf is what a value has at a step, if it has something there.
func stepOf(v, step api.Value) (api.Value, bool) {
	for i, item := range v.Items {
		if v.Kind == api.Object && specimen.Alike(step, text(v.Keys[i])) || v.Kind == api.Array && specimen.Alike(step, num(strconv.Itoa(i))) {
			return item, true
		}
	}
	return api.Value{}, false
}

// ledOf is what a way leads to, if it leads to something.
func ledOf(v api.Value, way []api.Value) (api.Value, bool) {
	for _, step := range way {
		next, there := stepOf(v, step)
		if !there {
			return api.Value{}, false
		}
		v = next
	}
	return v, true
}
