package schema

import (
	"hallmark/api"
	"hallmark/shape"
	"hallmark/tens"
)

// document is the document of a well shaped type.
func document(t api.Type) api.Value {
	switch {
	case t.All:
		return api.Value{Kind: api.True}
	case isNever(t):
		return api.Value{Kind: api.False}
	}
	all := pieces(t)
	if len(all) == 1 {
		return all[0]
	}
	var out fields
	out.put("anyOf", list(all))
	return out.object()
}

func isNever(t api.Type) bool { return shape.Kinds(t) == 0 }

// fields is an object while it is made: its keys are put in as they rise. (value.With would copy at each key all that is there already.)
type fields struct {
	keys  []string
	items []api.Value
}

func (f *fields) put(key string, item api.Value) {
	f.keys, f.items = append(f.keys, key), append(f.items, item)
}

func (f *fields) object() api.Value {
	return api.Value{Kind: api.Object, Keys: f.keys, Items: f.items}
}

func list(items []api.Value) api.Value { return api.Value{Kind: api.Array, Items: items} }

func text(s string) api.Value { return api.Value{Kind: api.Text, Text: s} }

func number(s string) api.Value { return api.Value{Kind: api.Number, Num: s} }

// pieces are the documents of what a type has, each of one sort.
func pieces(t api.Type) []api.Value {
	var out []api.Value
	if named := valuesOf(t); len(named) > 0 {
		var f fields
		f.put("enum", list(named))
		out = append(out, f.object())
	}
	for _, span := range t.Nums {
		out = append(out, ofSpan(span))
	}
	if t.AnyText {
		var f fields
		f.put("type", text("string"))
		out = append(out, f.object())
	}
	for _, arr := range t.Arrays {
		out = append(out, ofArr(arr))
	}
	for _, obj := range t.Objects {
		out = append(out, ofObj(obj))
	}
	return out
}

// valuesOf are the values that a type names one by one.
func valuesOf(t api.Type) []api.Value {
	var out []api.Value
	for kind, set := range [...]bool{api.Null: t.Null, api.False: t.False, api.True: t.True} {
		if set {
			out = append(out, api.Value{Kind: kind})
		}
	}
	for _, s := range t.Texts {
		out = append(out, text(s))
	}
	return out
}

func ofSpan(span api.Span) api.Value {
	var f fields
	if span.High != "" {
		f.put("maximum", number(span.High))
	}
	if span.Low != "" {
		f.put("minimum", number(span.Low))
	}
	f.put("type", text("integer"))
	return f.object()
}

func ofArr(arr api.Arr) api.Value {
	var f fields
	if !arr.Item.All && !isNever(arr.Item) {
		f.put("items", document(arr.Item))
	}
	if arr.Max >= 0 {
		f.put("maxItems", number(tens.Of(arr.Max)))
	}
	if arr.Min > 0 {
		f.put("minItems", number(tens.Of(arr.Min)))
	}
	f.put("type", text("array"))
	return f.object()
}

func ofObj(obj api.Obj) api.Value {
	var f, named fields
	var asked []api.Value
	for i, name := range obj.Names {
		named.put(name, document(obj.Fields[i]))
		if obj.Must[i] {
			asked = append(asked, text(name))
		}
	}
	if !obj.Rest.All {
		f.put("additionalProperties", document(obj.Rest))
	}
	if len(obj.Names) > 0 {
		f.put("properties", named.object())
	}
	if len(asked) > 0 {
		f.put("required", list(asked))
	}
	f.put("type", text("object"))
	return f.object()
}
