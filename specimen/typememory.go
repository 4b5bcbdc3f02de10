package specimen

import (
	"slices"

	"hallmark/api"
)

// RoomyType is a copy of a type whose lists, the empty ones too, have spare room with marks in it.
func RoomyType(t api.Type) api.Type {
	t.Nums = roomy(t.Nums, api.Span{Low: "spare"}, api.Span{High: "room"})
	t.Texts = roomy(t.Texts, "spare", "room")
	t.Arrays = roomy(t.Arrays, api.Arr{Min: 77}, api.Arr{Max: 77})
	for i, arr := range t.Arrays {
		t.Arrays[i].Item = RoomyType(arr.Item)
	}
	t.Objects = roomy(t.Objects, api.Obj{Names: []string{"spare"}}, api.Obj{Names: []string{"room"}})
	for i, obj := range t.Objects {
		t.Objects[i] = roomyObj(obj)
	}
	return t
}

func roomyObj(o api.Obj) api.Obj {
	o.Names = roomy(o.Names, "spare", "room")
	o.Must = roomy(o.Must, true, false)
	o.Rest = RoomyType(o.Rest)
	o.Fields = roomy(o.Fields, Texts("spare"), Texts("room"))
	for i, field := range o.Fields {
		o.Fields[i] = RoomyType(field)
	}
	return o
}

// EmptyListed is a type with an empty list for each one that is nil at the top.
func EmptyListed(t api.Type) api.Type {
	t.Nums, t.Texts = append([]api.Span{}, t.Nums...), append([]string{}, t.Texts...)
	t.Arrays, t.Objects = append([]api.Arr{}, t.Arrays...), append([]api.Obj{}, t.Objects...)
	return t
}

// UntouchedType says whether a type is still what RoomyType made of this one, its spare room too.
func UntouchedType(t, before api.Type) bool {
	arrs := func(a, b api.Arr) bool { return a.Min == b.Min && a.Max == b.Max && UntouchedType(a.Item, b.Item) }
	marked := markedNums(spare(t.Nums)) && slices.Equal(spare(t.Texts), []string{"spare", "room"}) && markedArrs(spare(t.Arrays)) && markedObjs(spare(t.Objects))
	return marked && alikeFlags(t, before) && slices.Equal(t.Nums, before.Nums) && slices.Equal(t.Texts, before.Texts) && slices.EqualFunc(t.Arrays, before.Arrays, arrs) && slices.EqualFunc(t.Objects, before.Objects, untouchedObj)
}

func untouchedObj(o, before api.Obj) bool {
	marked := slices.Equal(spare(o.Names), []string{"spare", "room"}) && slices.Equal(spare(o.Must), []bool{true, false}) && slices.EqualFunc(spare(o.Fields), []api.Type{Texts("spare"), Texts("room")}, AlikeTypes)
	return marked && slices.Equal(o.Names, before.Names) && slices.Equal(o.Must, before.Must) && slices.EqualFunc(o.Fields, before.Fields, UntouchedType) && UntouchedType(o.Rest, before.Rest)
}

func markedNums(l []api.Span) bool {
	return slices.Equal(l, []api.Span{{Low: "spare"}, {High: "room"}})
}

func markedArrs(l []api.Arr) bool {
	return slices.EqualFunc(l, []api.Arr{{Min: 77}, {Max: 77}}, alikeArrs)
}

func markedObjs(l []api.Obj) bool {
	return slices.EqualFunc(l, []api.Obj{{Names: []string{"spare"}}, {Names: []string{"room"}}}, alikeObjs)
}

// OwnType says whether a type's memory is its own: no two of its lists share a place, spare room counted, and none of them shares one with these others.
func OwnType(t api.Type, others ...api.Type) bool {
	return PlacesOfTypes(t).Apart(PlacesOfTypes(others...))
}

// PlacesOfTypes are the places of all lists in types.
func PlacesOfTypes(types ...api.Type) Places {
	var out Places
	for _, t := range types {
		out.inType(t)
	}
	return out
}

func (p *Places) inType(t api.Type) {
	nums, arrays, objects := t.Nums[:cap(t.Nums)], t.Arrays[:cap(t.Arrays)], t.Objects[:cap(t.Objects)]
	for i := range nums {
		p.texts = append(p.texts, &nums[i].Low)
	}
	p.inTexts(t.Texts)
	for i := range arrays {
		p.flags = append(p.flags, &arrays[i].Item.All)
	}
	for i := range objects {
		p.flags = append(p.flags, &objects[i].Rest.All)
	}
	for _, arr := range t.Arrays {
		p.inType(arr.Item)
	}
	for _, obj := range t.Objects {
		p.inObj(obj)
	}
}

func (p *Places) inObj(o api.Obj) {
	fields, must := o.Fields[:cap(o.Fields)], o.Must[:cap(o.Must)]
	p.inTexts(o.Names)
	for i := range must {
		p.flags = append(p.flags, &must[i])
	}
	for i := range fields {
		p.flags = append(p.flags, &fields[i].All)
	}
	for _, field := range o.Fields {
		p.inType(field)
	}
	p.inType(o.Rest)
}

// ScribbleType writes into all lists of a type, and into their spare room.
func ScribbleType(t api.Type) {
	for _, arr := range t.Arrays {
		ScribbleType(arr.Item)
	}
	for _, obj := range t.Objects {
		for _, field := range obj.Fields {
			ScribbleType(field)
		}
		ScribbleType(obj.Rest)
		fill(obj.Names, "scribbled")
		fill(obj.Must, true)
		fill(obj.Fields, Texts("scribbled"))
	}
	fill(t.Nums, api.Span{Low: "scribbled"})
	fill(t.Texts, "scribbled")
	fill(t.Arrays, api.Arr{Min: 99})
	fill(t.Objects, api.Obj{Names: []string{"scribbled"}})
}
