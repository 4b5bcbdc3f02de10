package sample_test

import (
	"math/rand"
	"slices"
	"strings"

	"hallmark/api"
	"hallmark/reader"
	"hallmark/specimen"
	"hallmark/value"
	"hallmark/writer"
)

var (
	nums, texts, arrays, objects, objOf = specimen.Nums, specimen.Texts, specimen.Arrays, specimen.Objects, specimen.Obj
	never, every, null, truth           = api.Type{}, specimen.Every(), api.Type{Null: true}, api.Type{True: true}
	both, anyNumber, anyText, laid      = api.Type{Null: true, True: true}, nums("", ""), api.Type{AnyText: true}, specimen.LaidOut()
	anyArray, anyObject                 = arrays(every, 0, -1), objects(objOf(every, nil))
)

// tooHeavy has a value, but no sample.
var tooHeavy = texts(long(4096))

func random(seed int64) specimen.Source { return rand.New(rand.NewSource(seed)).Intn }

// long is a text of so many bytes.
func long(many int) string { return strings.Repeat("w", many) }

// short is a text that can be read.
func short(a api.Type) string {
	out := specimen.Told(a)
	return out[:min(len(out), 1000)]
}

// row is a text that can be read, of values.
func row(values []api.Value) string {
	out, _ := writer.Lines(values)
	out = strings.ReplaceAll(out, "\n", " ")
	return out[:min(len(out), 500)]
}

// js are the values of a text of JSON.
func js(s string) []api.Value {
	out, e, _ := reader.Many(s)
	if e != api.OK {
		panic(s)
	}
	return out
}

// with is two types in one: the second has what the first hasn't.
func with(a, b api.Type) api.Type {
	a.Null, a.False, a.True, a.AnyText = a.Null || b.Null, a.False || b.False, a.True || b.True, a.AnyText || b.AnyText
	a.Nums, a.Texts = slices.Concat(a.Nums, b.Nums), slices.Concat(a.Texts, b.Texts)
	a.Arrays, a.Objects = slices.Concat(a.Arrays, b.Arrays), slices.Concat(a.Objects, b.Objects)
	return a
}

func alikeRows(a, b []api.Value) bool { return slices.EqualFunc(a, b, specimen.Alike) }

// The chapter's words, said once more, plainly.

// rowOf is a row of samples while it is made.
type rowOf []api.Value

func (r *rowOf) put(values ...api.Value) {
	for _, v := range values {
		there := slices.ContainsFunc(*r, func(one api.Value) bool { return specimen.Alike(one, v) })
		if !there && value.Weight(v) <= 4096 {
			*r = append(*r, v)
		}
	}
}

// samplesOf are the samples of a type at a depth.
func samplesOf(a api.Type, d int) []api.Value {
	if a.All && d >= 2 {
		return js(`null true 1 "a"`)
	}
	a = specimen.ByKinds(a)
	var row rowOf
	for kind, set := range []bool{a.Null, a.False, a.True} {
		if set {
			row.put(specimen.Kind(kind))
		}
	}
	for _, span := range a.Nums {
		for _, n := range []string{span.Low, span.High, "0", "1", "-1", "2", "10", "-7", "100000000000000000000"} {
			if n != "" && specimen.In(specimen.Num(n), api.Type{Nums: a.Nums}) {
				row.put(specimen.Num(n))
			}
		}
	}
	if a.AnyText {
		row.put(js(`"" "a" "b" "7" "é"`)...)
	}
	for _, text := range a.Texts {
		row.put(specimen.Text(text))
	}
	for _, arr := range a.Arrays {
		row.put(listsOf(arr, d)...)
	}
	for _, obj := range a.Objects {
		row.put(objectsOf(obj, d)...)
	}
	return row
}

func listsOf(arr api.Arr, d int) []api.Value {
	var out []api.Value
	s := samplesOf(arr.Item, d+1)
	for more := range 3 {
		if arr.Max >= 0 && arr.Max-arr.Min < more || arr.Min > 5000 { // so many items are too heavy, whatever they are
			break
		}
		n := arr.Min + more
		if n == 0 {
			out = append(out, specimen.List())
			continue
		}
		for i := 0; i < 3 && i < len(s); i++ {
			v := specimen.List()
			for j := range n {
				v.Items = append(v.Items, s[(i+j)%len(s)])
			}
			out = append(out, v)
		}
	}
	return out
}

func objectsOf(o api.Obj, d int) []api.Value {
	var out []api.Value
	of := map[string][]api.Value{}
	for i, name := range o.Names {
		of[name] = samplesOf(o.Fields[i], d+1)
		if o.Must[i] && len(of[name]) == 0 {
			return nil
		}
	}
	extra := "x"
	for slices.Contains(o.Names, extra) {
		extra += "x"
	}
	of[extra] = samplesOf(o.Rest, d+1)
	for i := range 3 {
		a := map[string]api.Value{}
		b := map[string]api.Value{}
		c := map[string]api.Value{}
		for k, name := range o.Names {
			if s := of[name]; len(s) > 0 {
				b[name] = s[i%len(s)]
				if o.Must[k] {
					a[name], c[name] = b[name], b[name]
				}
			}
		}
		out = append(out, object(a), object(b))
		if s := of[extra]; len(s) > 0 {
			c[extra] = s[i%len(s)]
			out = append(out, object(c))
		}
	}
	return out
}

// object is the object of these fields.
func object(fields map[string]api.Value) api.Value {
	out := specimen.Object(nil)
	for name := range fields {
		out.Keys = append(out.Keys, name)
	}
	slices.Sort(out.Keys)
	for _, name := range out.Keys {
		out.Items = append(out.Items, fields[name])
	}
	return out
}
