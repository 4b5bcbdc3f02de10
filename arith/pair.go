package arith

import (
	"slices"
	"strings"

	"hallmark/api"
	"hallmark/tens"
	"hallmark/utf"
	"hallmark/value"
)

// pair is the two well shaped values of an operation.
type pair struct{ a, b api.Value }

// operations are what is done with a pair, by the operations' numbers; nil at a number that is none.
func operations() [api.Ge + 1]func(p pair) (v, fault api.Value, ok bool) {
	return [...]func(p pair) (v, fault api.Value, ok bool){
		api.Add: pair.sum,
		api.Sub: pair.difference,
		api.Mul: pair.product,
		api.Div: pair.quotient,
		api.Mod: pair.rest,
		api.Eq:  pair.same,
		api.Ne:  pair.unlike,
		api.Lt:  pair.ahead,
		api.Le:  pair.notBehind,
		api.Gt:  pair.behind,
		api.Ge:  pair.notAhead,
	}
}

// are says whether both are of a kind.
func (p pair) are(kind int) bool { return p.a.Kind == kind && p.b.Kind == kind }

func (p pair) sum() (v, fault api.Value, ok bool) {
	switch {
	case p.a.Kind == api.Null:
		return given(value.Twin(p.b))
	case p.b.Kind == api.Null:
		return given(value.Twin(p.a))
	case p.are(api.Number):
		return reckoned(tens.Add(p.a.Num, p.b.Num))
	case p.are(api.Text):
		return given(text(p.a.Text + p.b.Text))
	case p.are(api.Array):
		return given(array(slices.Concat(p.a.Items, p.b.Items)))
	case p.are(api.Object):
		return joined(value.Merge(p.a, p.b))
	}
	return failed("add")
}

func (p pair) difference() (v, fault api.Value, ok bool) {
	switch {
	case p.are(api.Number):
		return reckoned(tens.Sub(p.a.Num, p.b.Num))
	case p.are(api.Array):
		return given(array(without(p.a.Items, p.b.Items)))
	}
	return failed("sub")
}

// without are the items that are the same as none of the others. Those are sorted first, so that very many of both don't cost their numbers multiplied.
func without(items, others []api.Value) []api.Value {
	sorted := slices.SortedFunc(slices.Values(others), value.Cmp)
	var left []api.Value
	for _, item := range items {
		if _, there := slices.BinarySearchFunc(sorted, item, value.Cmp); !there {
			left = append(left, item)
		}
	}
	return left
}

func (p pair) product() (v, fault api.Value, ok bool) {
	switch {
	case p.are(api.Number):
		return reckoned(tens.Mul(p.a.Num, p.b.Num))
	case p.a.Kind == api.Text && p.b.Kind == api.Number:
		return repeated(p.a.Text, p.b.Num)
	case p.a.Kind == api.Number && p.b.Kind == api.Text:
		return repeated(p.b.Text, p.a.Num)
	case p.are(api.Object):
		return joined(value.Deep(p.a, p.b))
	}
	return failed("mul")
}

// repeated is a text so many times; one that is too heavy isn't made.
func repeated(s, times string) (v, fault api.Value, ok bool) {
	const longest = api.MaxFuel - 1 // bytes: a text weighs one more than it has
	side, _ := tens.Cmp(times, "1")
	many, small := tens.Small(times)
	switch {
	case side < 0:
		return given(api.Value{})
	case s == "": // it weighs the same however many times it stands, and that may be more than an int holds
		return given(text(""))
	case !small || many > longest/len(s):
		return neither()
	}
	return given(text(strings.Repeat(s, many)))
}

func (p pair) quotient() (v, fault api.Value, ok bool) {
	if p.are(api.Text) {
		return given(texts(utf.Split(p.a.Text, p.b.Text)))
	}
	return p.over("div", tens.Div)
}

func (p pair) rest() (v, fault api.Value, ok bool) { return p.over("mod", tens.Mod) }

// over is what a division gives; its word is that of the fault.
func (p pair) over(word string, divide func(a, b string) (string, api.Errno)) (v, fault api.Value, ok bool) {
	switch {
	case p.are(api.Number):
		if n, e := divide(p.a.Num, p.b.Num); e == api.OK {
			return given(number(n))
		}
		word += " by 0"
		fallthrough
	default:
		return failed(word)
	}
}

// texts is the array of some texts.
func texts(l []string) api.Value {
	out := api.Value{Kind: api.Array}
	for _, s := range l {
		out.Items = append(out.Items, text(s))
	}
	return out
}

// side is -1, 0 or 1, as a stands ahead of b, is the same, or stands behind it.
func (p pair) side() int { return value.Cmp(p.a, p.b) }

func (p pair) same() (v, fault api.Value, ok bool) { return decided(p.side() == 0) }

func (p pair) unlike() (v, fault api.Value, ok bool) { return decided(p.side() != 0) }

func (p pair) ahead() (v, fault api.Value, ok bool) { return decided(p.side() < 0) }

func (p pair) notBehind() (v, fault api.Value, ok bool) { return decided(p.side() <= 0) }

func (p pair) behind() (v, fault api.Value, ok bool) { return decided(p.side() > 0) }

func (p pair) notAhead() (v, fault api.Value, ok bool) { return decided(p.side() >= 0) }
