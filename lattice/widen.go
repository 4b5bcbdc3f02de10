package lattice

import (
	"slices"

	"hallmark/api"
	"hallmark/shape"
	"hallmark/tidy"
)

// widened is two well shaped types widened by a table, which is handed the normal form of the first one and the join of both.
func widened(a, b api.Type, by *table) api.Type {
	first, _ := tidy.Tidy(a)
	join, _ := Join(a, b)
	switch {
	case shape.Same(join, first):
		return first
	case join.All:
		return join
	}
	out, _ := tidy.Tidy(by.made(&first, &join))
	return out
}

func widening() *table {
	return &table{(*pair).keepFlags, (*pair).widenNums, (*pair).widenTexts, (*pair).widenArrays, (*pair).widenObjects}
}

// loosening is widening that doesn't go inside: else a type could grow deeper for ever.
func loosening() *table {
	return &table{(*pair).keepFlags, (*pair).widenNums, (*pair).widenTexts, (*pair).loosenArrays, (*pair).loosenObjects}
}

// loosened is two types loosely widened.
func loosened(a, b api.Type) api.Type { return widened(a, b, loosening()) }

func (p *pair) keepFlags() {
	p.out.Null, p.out.False, p.out.True = p.b.Null, p.b.False, p.b.True
}

func (p *pair) widenNums() {
	p.out.Nums = p.b.Nums
	if len(p.a.Nums) == 0 {
		return
	}
	x, y := p.a.Nums[0], p.b.Nums[0]
	p.out.Nums = []api.Span{{Low: kept(x.Low, y.Low), High: kept(x.High, y.High)}}
}

// kept is a bound that is still the same, or none.
func kept(was, is string) string {
	if was == is {
		return is
	}
	return ""
}

func (p *pair) widenTexts() {
	was, is := api.Type{AnyText: p.a.AnyText, Texts: p.a.Texts}, api.Type{AnyText: p.b.AnyText, Texts: p.b.Texts}
	if settled(was, is) {
		p.out.AnyText, p.out.Texts = is.AnyText, is.Texts
	} else {
		p.out.AnyText = true
	}
}

// settled says of the parts of one kind whether they may stay as they are now: there were none, or they are the same still.
func settled(was, is api.Type) bool { return isNever(was) || shape.Same(was, is) }

func (p *pair) widenArrays() {
	p.out.Arrays = p.b.Arrays
	if len(p.a.Arrays) == 0 {
		return
	}
	was, is := &p.a.Arrays[0], p.b.Arrays[0]
	is.Item = loosened(was.Item, is.Item)
	if is.Min != was.Min {
		is.Min = 0
	}
	if is.Max != was.Max {
		is.Max = -1
	}
	p.out.Arrays = []api.Arr{is}
}

func (p *pair) loosenArrays() {
	p.out.Arrays = p.b.Arrays
	if !settled(api.Type{Arrays: p.a.Arrays}, api.Type{Arrays: p.b.Arrays}) {
		p.out.Arrays = []api.Arr{{Item: shape.Every(), Max: -1}}
	}
}

func (p *pair) widenObjects() {
	p.out.Objects = p.b.Objects
	if !p.objectsSettled() {
		was, _ := tidy.One(p.a.Objects)
		is, _ := tidy.One(p.b.Objects)
		p.out.Objects = []api.Obj{widenedObj(&was, &is)}
	}
}

func (p *pair) loosenObjects() {
	p.out.Objects = p.b.Objects
	if !p.objectsSettled() {
		p.out.Objects = []api.Obj{{Rest: shape.Every()}}
	}
}

func (p *pair) objectsSettled() bool {
	return settled(api.Type{Objects: p.a.Objects}, api.Type{Objects: p.b.Objects})
}

// widenedObj is an alternative widened: it has no other names than it had, so that they don't become more for ever.
func widenedObj(was, is *api.Obj) api.Obj {
	out := api.Obj{Names: was.Names, Rest: loosened(was.Rest, beyond(was, is))}
	for i, name := range was.Names {
		field, must := said(is, name)
		out.Fields, out.Must = append(out.Fields, loosened(was.Fields[i], *field)), append(out.Must, was.Must[i] && must)
	}
	return out
}

// beyond is what an alternative says now of all names that it hadn't.
func beyond(was, is *api.Obj) api.Type {
	out, _ := tidy.Tidy(is.Rest)
	for i, name := range is.Names {
		if _, had := slices.BinarySearch(was.Names, name); !had {
			out, _ = Join(out, is.Fields[i])
		}
	}
	return out
}
