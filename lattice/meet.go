package lattice

import (
	"slices"

	"hallmark/api"
	"hallmark/tens"
)

// common is the common part of two types.
func common(a, b *api.Type) api.Type {
	switch {
	case a.All:
		return *b
	case b.All:
		return *a
	}
	return meeting().made(a, b)
}

func meeting() *table {
	return &table{(*pair).meetFlags, (*pair).meetNums, (*pair).meetTexts, (*pair).meetArrays, (*pair).meetObjects}
}

func (p *pair) meetFlags() {
	p.out.Null, p.out.False, p.out.True = p.a.Null && p.b.Null, p.a.False && p.b.False, p.a.True && p.b.True
}

func (p *pair) meetNums() {
	if len(p.a.Nums) == 0 || len(p.b.Nums) == 0 {
		return
	}
	x, y := p.a.Nums[0], p.b.Nums[0]
	both := api.Span{Low: nearer(x.Low, y.Low, 1), High: nearer(x.High, y.High, -1)}
	if side, e := tens.Cmp(both.Low, both.High); e == api.OK && side > 0 { // an error is told of a bound that isn't there, and nothing is above that
		return
	}
	p.out.Nums = []api.Span{both}
}

// nearer is that one of two bounds which leaves fewer numbers: with 1 the greater one, with -1 the lesser one. One that isn't there leaves all.
func nearer(a, b string, side int) string {
	switch {
	case a == "":
		return b
	case b == "":
		return a
	}
	if found, _ := tens.Cmp(a, b); found == side {
		return a
	}
	return b
}

func (p *pair) meetTexts() {
	switch {
	case p.a.AnyText && p.b.AnyText:
		p.out.AnyText = true
	case p.a.AnyText:
		p.out.Texts = p.b.Texts
	case p.b.AnyText:
		p.out.Texts = p.a.Texts
	default:
		p.out.Texts = inBoth(p.a.Texts, p.b.Texts)
	}
}

// inBoth is the texts of one list that stand in another one, which rises.
func inBoth(a, b []string) []string {
	var out []string
	for _, text := range a {
		if _, found := slices.BinarySearch(b, text); found {
			out = append(out, text)
		}
	}
	return out
}

func (p *pair) meetArrays() {
	if len(p.a.Arrays) == 0 || len(p.b.Arrays) == 0 {
		return
	}
	x, y := &p.a.Arrays[0], &p.b.Arrays[0]
	both := api.Arr{Min: max(x.Min, y.Min), Max: fewer(x.Max, y.Max)}
	if both.Max >= 0 && both.Max < both.Min {
		return
	}
	both.Item = common(&x.Item, &y.Item)
	if isNever(both.Item) {
		if both.Min > 0 {
			return
		}
		both.Max = 0 // the array without items is left
	}
	p.out.Arrays = []api.Arr{both}
}

// fewer is the lesser one of two numbers of items; -1 is no bound.
func fewer(a, b int) int {
	if a < 0 || b < 0 {
		return max(a, b)
	}
	return min(a, b)
}

func (p *pair) meetObjects() {
	for i := range p.a.Objects {
		for k := range p.b.Objects {
			if both, some := commonObj(&p.a.Objects[i], &p.b.Objects[k]); some {
				p.out.Objects = append(p.out.Objects, both)
			}
		}
	}
}

// commonObj is the common part of two alternatives, if they have one.
func commonObj(a, b *api.Obj) (api.Obj, bool) {
	out := api.Obj{Names: slices.Concat(a.Names, b.Names)}
	slices.Sort(out.Names)
	out.Names = slices.Compact(out.Names)
	for _, name := range out.Names {
		x, asked := said(a, name)
		y, too := said(b, name)
		field, must := common(x, y), asked || too
		if must && isNever(field) {
			return api.Obj{}, false
		}
		out.Fields, out.Must = append(out.Fields, field), append(out.Must, must)
	}
	out.Rest = common(&a.Rest, &b.Rest)
	return out, true
}
