package schema

import (
	"slices"

	"hallmark/api"
	"hallmark/shape"
	"hallmark/tens"
)

// built is a type with the heights of what lies in its arrays and in its objects, -1 where it has none. (They aren't asked of the type: what one document says may stand at many places in it, all of which would be gone through.)
type built struct {
	api.Type
	item, field int
}

// flat is a type in which no other lies.
func flat(t api.Type) built { return built{t, -1, -1} }

func every() built { return flat(shape.Every()) }

func (b built) height() int { return 1 + max(b.item, b.field) }

// beyond says whether a type is beyond a limit. Those that lie in it aren't: they have been asked.
func (b built) beyond() bool {
	wide := func(o api.Obj) bool { return len(o.Names) > api.MaxFields }
	return len(b.Texts) > api.MaxTexts || len(b.Objects) > api.MaxAlts || b.height() > api.MaxHeight || slices.ContainsFunc(b.Objects, wide)
}

// rising puts texts in order, each once; their list is written into.
func rising(texts []string) []string {
	slices.Sort(texts)
	return slices.Compact(texts)
}

// worth says which of two numbers is worth more: -1, 0 or 1. An error is told of a bound that isn't there alone, with 0 beside it.
func worth(a, b string) int {
	side, _ := tens.Cmp(a, b)
	return side
}

func (p *part) buildEnum() (built, bool) {
	out := flat(shape.Never())
	var nums []string
	for _, v := range p.values {
		switch v.Kind {
		case api.Null:
			out.Null = true
		case api.False:
			out.False = true
		case api.True:
			out.True = true
		case api.Number:
			nums = append(nums, v.Num)
		case api.Text:
			out.Texts = append(out.Texts, v.Text)
		}
	}
	out.Texts = rising(out.Texts)
	if len(nums) == 0 {
		return out, true
	}
	span, full := spanOf(nums)
	out.Nums = []api.Span{span}
	return out, full
}

// spanOf is from the least of some numbers to the greatest, and whether all between are there; their list is written into.
func spanOf(nums []string) (api.Span, bool) {
	slices.SortFunc(nums, worth)
	nums = slices.Compact(nums)
	least, greatest := nums[0], nums[len(nums)-1]
	far, _ := tens.Sub(greatest, least)
	return api.Span{Low: least, High: greatest}, far == tens.Of(len(nums)-1)
}

func (p *part) buildPlain() (built, bool) {
	if !p.said {
		return every(), true
	}
	in := func(kind int) bool { return p.kinds&(1<<kind) != 0 }
	out := flat(api.Type{Null: in(api.Null), False: in(api.False), True: in(api.True), AnyText: in(api.Text)})
	if in(api.Number) {
		out.Nums = p.numbers()
	}
	if in(api.Array) {
		out.Arrays, out.item = p.arrays()
	}
	if in(api.Object) {
		out.Objects, out.field = p.objects()
	}
	return out, true
}

func (p *part) numbers() []api.Span {
	if above(p.span.Low, p.span.High) {
		return nil
	}
	return []api.Span{p.span}
}

// above says whether a bound is above another one. None is above one that isn't there, nor is that one.
func above(a, b string) bool { return worth(a, b) > 0 }

// arrays is the arrays of the part, and the height of what lies in them.
func (p *part) arrays() ([]api.Arr, int) {
	none := isNever(p.item.Type) || p.most == 0
	switch {
	case p.least > 0 && none, p.most >= 0 && p.most < p.least:
		return nil, -1
	case none:
		return []api.Arr{{}}, 0
	}
	return []api.Arr{{Item: p.item.Type, Min: p.least, Max: p.most}}, p.item.height()
}

// objects is the objects of the part, and the height of what lies in them.
func (p *part) objects() ([]api.Obj, int) {
	out := api.Obj{Names: rising(slices.Concat(p.names, p.asked)), Rest: p.rest.Type}
	height := p.rest.height()
	for _, name := range out.Names {
		field := p.rest
		if at, found := slices.BinarySearch(p.names, name); found {
			field = p.fields[at]
		}
		_, must := slices.BinarySearch(p.asked, name)
		if must && isNever(field.Type) {
			return nil, -1
		}
		out.Fields, out.Must = append(out.Fields, field.Type), append(out.Must, must)
		height = max(height, field.height())
	}
	return []api.Obj{out}, height
}
