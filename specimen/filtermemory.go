package specimen

import (
	"slices"

	"hallmark/api"
)

// RoomyFilter is a copy of a filter whose lists, the empty ones too, have spare room with marks in it.
func RoomyFilter(n api.Node) api.Node {
	n.Value = Roomy(n.Value)
	n.Names = roomy(n.Names, "spare", "room")
	n.Kids = roomy(n.Kids, NamedPart(77, "spare"), NamedPart(77, "room"))
	for i, kid := range n.Kids {
		n.Kids[i] = RoomyFilter(kid)
	}
	return n
}

// EmptyListedFilter is a filter with an empty list for each one that is nil.
func EmptyListedFilter(n api.Node) api.Node {
	n.Names = append([]string{}, n.Names...)
	n.Value.Items, n.Value.Keys = append([]api.Value{}, n.Value.Items...), append([]string{}, n.Value.Keys...)
	n.Kids = append([]api.Node{}, n.Kids...)
	for i, kid := range n.Kids {
		n.Kids[i] = EmptyListedFilter(kid)
	}
	return n
}

// UntouchedFilter says whether a filter is still what RoomyFilter made of this one, its spare room and its places too.
func UntouchedFilter(n, before api.Node) bool {
	marked := slices.Equal(spare(n.Names), []string{"spare", "room"}) && slices.EqualFunc(spare(n.Kids), []api.Node{NamedPart(77, "spare"), NamedPart(77, "room")}, EqualFilters)
	return marked && n.At == before.At && n.Op == before.Op && n.Text == before.Text && Untouched(n.Value, before.Value) && slices.Equal(n.Names, before.Names) && slices.EqualFunc(n.Kids, before.Kids, UntouchedFilter)
}

// OwnFilter says whether a filter's memory is its own: no two of its lists share a place, spare room counted, and none of them shares one with these others.
func OwnFilter(n api.Node, others ...api.Node) bool {
	return PlacesOfFilters(n).Apart(PlacesOfFilters(others...))
}

// PlacesOfFilters are the places of all lists in filters.
func PlacesOfFilters(filters ...api.Node) Places {
	var out Places
	for _, n := range filters {
		out.inFilter(n)
	}
	return out
}

func (p *Places) inFilter(n api.Node) {
	kids := n.Kids[:cap(n.Kids)]
	for i := range kids {
		p.texts = append(p.texts, &kids[i].Text)
	}
	p.inTexts(n.Names)
	p.inValue(n.Value)
	for _, kid := range n.Kids {
		p.inFilter(kid)
	}
}

// ScribbleFilter writes into all lists of a filter, and into their spare room.
func ScribbleFilter(n api.Node) {
	for _, kid := range n.Kids {
		ScribbleFilter(kid)
	}
	Scribble(n.Value)
	fill(n.Names, "scribbled")
	fill(n.Kids, NamedPart(99, "scribbled"))
}
