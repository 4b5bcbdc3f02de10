package shape

import (
	"hallmark/api"
	"hallmark/value"
)

// Of is a type that has a value, as narrow as types go.
func Of(v api.Value) (api.Type, api.Errno) {
	if !value.Formed(v) {
		return api.Type{}, api.ErrShape
	}
	return near(v, api.MaxHeight), api.OK
}

// near is the near type of a well shaped value with a height.
func near(v api.Value, height int) api.Type {
	switch v.Kind {
	case api.Number:
		return api.Type{Nums: []api.Span{{Low: v.Num, High: v.Num}}}
	case api.Text:
		return api.Type{Texts: []string{v.Text}}
	case api.Array, api.Object:
		return nearAround(v, height)
	}
	return OfKinds(bit(v.Kind)) // the other kinds have one value each
}

// nearAround is the near type of an array or object.
func nearAround(v api.Value, height int) api.Type {
	if height == 0 {
		return Every()
	}
	if v.Kind == api.Object {
		return api.Type{Objects: []api.Obj{nearFields(v, height)}}
	}
	many := len(v.Items)
	return api.Type{Arrays: []api.Arr{{Item: nearItem(v.Items, height), Min: many, Max: many}}}
}

// nearItem is what is told of all items of an array.
func nearItem(items []api.Value, height int) api.Type {
	if len(items) == 0 {
		return Never()
	}
	first := near(items[0], height-1)
	for _, item := range items[1:] { // one type at a time: those of a long array together may be far greater than it is
		if !Same(near(item, height-1), first) {
			return common(items, height)
		}
	}
	return first
}

// nearFields is what is told of an object's fields.
func nearFields(v api.Value, height int) api.Obj {
	if len(v.Keys) > api.MaxFields {
		return api.Obj{Rest: common(v.Items, height)}
	}
	var out api.Obj
	for i, key := range v.Keys {
		out.Names = append(out.Names, key)
		out.Fields = append(out.Fields, near(v.Items[i], height-1))
		out.Must = append(out.Must, true)
	}
	return out
}

// common is the type of the kinds of some values, where there is height enough: that of arrays has one already.
func common(items []api.Value, height int) api.Type {
	if height <= 1 {
		return Every()
	}
	var row uint8
	for _, item := range items {
		row |= bit(item.Kind)
	}
	return OfKinds(row)
}
