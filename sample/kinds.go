package sample

import (
	"iter"
	"slices"

	"hallmark/api"
	"hallmark/shape"
	"hallmark/tens"
)

// bottom is the depth from which on every has no more than a few samples: laid out, it would have itself inside for ever.
const bottom = 2

// samples are the samples of a well shaped type at a depth.
func samples(t *api.Type, depth int) iter.Seq[weighed] {
	switch {
	case t.All && depth >= bottom:
		return chain(each([]int{api.Null, api.True}, bare), each([]string{"1"}, number), each([]string{"a"}, text))
	case t.All:
		laid := laidOut()
		t = &laid
	}
	rows := []iter.Seq[weighed]{flags(t)}
	for _, span := range t.Nums {
		rows = append(rows, numbers(span))
	}
	rows = append(rows, texts(t))
	for i := range t.Arrays {
		rows = append(rows, arrays(&t.Arrays[i], depth+1))
	}
	for i := range t.Objects {
		rows = append(rows, objects(&t.Objects[i], depth+1))
	}
	return once(chain(rows...))
}

// laidOut is every, told kind by kind: of all seven kinds shape would tell it in one word.
func laidOut() api.Type {
	out := shape.OfKinds(^uint8(1 << api.Null))
	out.Null = true
	return out
}

func bare(kind int) api.Value { return api.Value{Kind: kind} }

func number(n string) api.Value { return api.Value{Kind: api.Number, Num: n} }

func text(s string) api.Value { return api.Value{Kind: api.Text, Text: s} }

func flags(t *api.Type) iter.Seq[weighed] {
	var set []int
	for kind, is := range [...]bool{api.Null: t.Null, api.False: t.False, api.True: t.True} {
		if is {
			set = append(set, kind)
		}
	}
	return each(set, bare)
}

func numbers(span api.Span) iter.Seq[weighed] {
	all := []string{span.Low, span.High, "0", "1", "-1", "2", "10", "-7", "100000000000000000000"}
	return each(slices.DeleteFunc(all, func(n string) bool { return !has(span, n) }), number)
}

// has says whether a span has a number; the empty text is none.
func has(span api.Span, n string) bool {
	return n != "" && notAbove(span.Low, n) && notAbove(n, span.High)
}

// notAbove says whether a number isn't above another one; a bound that isn't there, of which an error is told, is never passed.
func notAbove(a, b string) bool {
	side, e := tens.Cmp(a, b)
	return e != api.OK || side <= 0
}

func texts(t *api.Type) iter.Seq[weighed] {
	if t.AnyText {
		return each([]string{"", "a", "b", "7", "é"}, text)
	}
	return each(t.Texts, text)
}
