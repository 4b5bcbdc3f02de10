package prim

import (
	"slices"

	"hallmark/api"
	"hallmark/path"
	"hallmark/tens"
	"hallmark/utf"
	"hallmark/value"
)

// input is the well shaped values that a primitive is handed: its input and its arguments. What it makes of them is a value, or nothing (false), if no row of the table fits.
type input struct {
	v    api.Value
	args []api.Value
}

// are says whether the input is of a kind, and the first arguments are of these others.
func (in input) are(kind int, others ...int) bool {
	for i, other := range others {
		if in.args[i].Kind != other {
			return false
		}
	}
	return in.v.Kind == kind
}

func given(v api.Value) (api.Value, bool) { return v, true }

func misfit() (api.Value, bool) { return api.Value{}, false }

// went is what a lower layer answers, if that went well.
func went(v api.Value, e api.Errno) (api.Value, bool) { return v, e == api.OK }

func truth(holds bool) (api.Value, bool) {
	if holds {
		return given(api.Value{Kind: api.True})
	}
	return given(api.Value{Kind: api.False})
}

func text(s string) api.Value { return api.Value{Kind: api.Text, Text: s} }

func number(n string) api.Value { return api.Value{Kind: api.Number, Num: n} }

func whole(n int) api.Value { return number(tens.Of(n)) }

func (in input) not() (api.Value, bool) { return truth(!value.True(in.v)) }

func (in input) kind() (api.Value, bool) { return given(text(value.Name(in.v.Kind))) }

func (in input) length() (api.Value, bool) {
	switch in.v.Kind {
	case api.Null:
		return given(whole(0))
	case api.Number:
		return in.unsigned()
	case api.Text:
		return given(whole(utf.Len(in.v.Text)))
	case api.Array, api.Object:
		return given(whole(len(in.v.Items)))
	}
	return misfit()
}

func (in input) unsigned() (api.Value, bool) {
	if !in.are(api.Number) {
		return misfit()
	}
	n, _ := tens.Abs(in.v.Num)
	return given(number(n))
}

func (in input) asArray() (api.Value, bool) {
	if in.are(api.Array) {
		return given(value.Twin(in.v))
	}
	return given(array([]api.Value{in.v}, value.Twin))
}

func (in input) keys() (api.Value, bool) {
	switch in.v.Kind {
	case api.Object:
		return given(array(in.v.Keys, text))
	case api.Array:
		return given(array(upTo(len(in.v.Items)), whole))
	}
	return misfit()
}

// upTo are the numbers from 0 to so many less 1.
func upTo(many int) []int {
	out := make([]int, many)
	for i := range out {
		out[i] = i
	}
	return out
}

func (in input) has() (api.Value, bool) {
	switch {
	case in.are(api.Object, api.Text):
		_, there := slices.BinarySearch(in.v.Keys, in.args[0].Text)
		return truth(there)
	case in.are(api.Array, api.Number):
		n, small := tens.Small(in.args[0].Num)
		return truth(small && 0 <= n && n < len(in.v.Items))
	}
	return misfit()
}

func (in input) holds() (api.Value, bool) {
	if value.Name(in.v.Kind) != value.Name(in.args[0].Kind) {
		return misfit()
	}
	return truth(holds(in.v, in.args[0]))
}

func (in input) under() (api.Value, bool) {
	if in.args[0].Kind != api.Array {
		return misfit()
	}
	return went(path.Get(in.v, in.args[0].Items))
}

func (in input) with() (api.Value, bool) {
	if in.args[0].Kind != api.Array {
		return misfit()
	}
	return went(path.Put(in.v, in.args[0].Items, in.args[1]))
}

func (in input) without() (api.Value, bool) {
	if in.args[0].Kind != api.Array || !row(in.args[0].Items).all(isArray) {
		return misfit()
	}
	var ways [][]api.Value
	for _, way := range in.args[0].Items {
		ways = append(ways, way.Items)
	}
	return went(path.Drops(in.v, ways))
}
