package member

import (
	"slices"

	"hallmark/api"
	"hallmark/shape"
	"hallmark/tens"
)

// against is why a value isn't of a type, nil if it is; both are well shaped. One walk answers both calls: to ask first whether a part is of its type, and then why it isn't, would look at what lies deep once for each level around it.
func against(v api.Value, t api.Type) error {
	if t.All {
		return nil
	}
	if shape.Kinds(t)>>v.Kind&1 == 0 {
		return here(Kind)
	}
	switch v.Kind {
	case api.Number:
		return againstSpan(v.Num, t.Nums[0])
	case api.Text:
		return againstTexts(v.Text, t)
	case api.Array:
		return againstArr(v.Items, t.Arrays[0])
	case api.Object:
		return againstObjs(v, t.Objects)
	}
	return nil // the other kinds have one value each
}

func againstSpan(n string, span api.Span) error {
	if !notAbove(span.Low, n) || !notAbove(n, span.High) {
		return here(Bound)
	}
	return nil
}

// notAbove says whether a number isn't above another one; a bound that is missing is never passed.
func notAbove(a, b string) bool {
	if a == "" || b == "" {
		return true
	}
	side, _ := tens.Cmp(a, b)
	return side <= 0
}

func againstTexts(text string, t api.Type) error {
	if _, named := slices.BinarySearch(t.Texts, text); !named && !t.AnyText {
		return here(Word)
	}
	return nil
}

func againstArr(items []api.Value, arr api.Arr) error {
	switch {
	case len(items) < arr.Min:
		return here(Few)
	case arr.Max >= 0 && len(items) > arr.Max:
		return here(Many)
	}
	for i, item := range items {
		if wrong := against(item, arr.Item); wrong != nil {
			return atItem(tens.Of(i), wrong)
		}
	}
	return nil
}

// againstObjs tells no more than NoneOf of several alternatives: which of them was meant can't be known.
func againstObjs(v api.Value, objs []api.Obj) error {
	if len(objs) == 1 {
		return againstObj(v, objs[0])
	}
	for _, obj := range objs {
		if againstObj(v, obj) == nil {
			return nil
		}
	}
	return here(NoneOf)
}

func againstObj(v api.Value, obj api.Obj) error {
	for i, name := range obj.Names {
		if obj.Must[i] && !has(v, name) {
			return atField(name, here(Lacks))
		}
	}
	for i, key := range v.Keys {
		if wrong := against(v.Items[i], fieldOf(obj, key)); wrong != nil {
			return atField(key, wrong)
		}
	}
	return nil
}

// has says whether an object has a field of a name. (value.Get would copy it.)
func has(v api.Value, name string) bool {
	_, there := slices.BinarySearch(v.Keys, name)
	return there
}

// fieldOf is the type that an alternative has for a field of a name.
func fieldOf(obj api.Obj, name string) api.Type {
	if place, named := slices.BinarySearch(obj.Names, name); named {
		return obj.Fields[place]
	}
	return obj.Rest
}
