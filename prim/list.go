package prim

import (
	"hallmark/api"
	"hallmark/order"
	"hallmark/value"
)

func (in input) reversed() (api.Value, bool) {
	switch in.v.Kind {
	case api.Null:
		return given(api.Value{Kind: api.Array})
	case api.Text:
		return given(script(in.v.Text).reversed())
	case api.Array:
		return given(row(in.v.Items).reversed())
	}
	return misfit()
}

func (in input) places() (api.Value, bool) {
	switch {
	case in.are(api.Null):
		return given(api.Value{})
	case in.are(api.Text, api.Text):
		return given(array(script(in.v.Text).places(script(in.args[0].Text)), whole))
	case in.are(api.Array, api.Array):
		return given(array(row(in.v.Items).places(in.args[0].Items), whole))
	case in.are(api.Array):
		return given(array(row(in.v.Items).places(in.args), whole))
	}
	return misfit()
}

func (in input) flat() (api.Value, bool) {
	if !in.are(api.Array) {
		return misfit()
	}
	return given(array(row(in.v.Items).flat(nil), value.Twin))
}

func (in input) transposed() (api.Value, bool) {
	rows := row(in.v.Items)
	if !in.are(api.Array) || !rows.all(isArray) {
		return misfit()
	}
	return given(array(upTo(rows.longest()), rows.column))
}

func (in input) sorted() (api.Value, bool) { return in.byItself().sortedBy() }

func (in input) unique() (api.Value, bool) { return in.byItself().uniqueBy() }

func (in input) least() (api.Value, bool) { return in.byItself().leastBy() }

func (in input) greatest() (api.Value, bool) { return in.byItself().greatestBy() }

// byItself has the input as its argument too: the items of an array are their own keys.
func (in input) byItself() input { return input{in.v, []api.Value{in.v}} }

func (in input) sortedBy() (api.Value, bool) { return in.ordered(order.SortBy) }

func (in input) uniqueBy() (api.Value, bool) { return in.ordered(order.Unique) }

// ordered are items in an order of their keys.
func (in input) ordered(how func(l, keys []api.Value) ([]api.Value, api.Errno)) (api.Value, bool) {
	if !in.are(api.Array, api.Array) {
		return misfit()
	}
	l, _ := how(in.v.Items, in.itemKeys())
	return given(api.Value{Kind: api.Array, Items: l})
}

func (in input) groupedBy() (api.Value, bool) {
	if !in.are(api.Array, api.Array) {
		return misfit()
	}
	groups, _ := order.Group(in.v.Items, in.itemKeys())
	return given(array(groups, func(l []api.Value) api.Value { return api.Value{Kind: api.Array, Items: l} }))
}

func (in input) leastBy() (api.Value, bool) { return in.foremost(order.Least) }

func (in input) greatestBy() (api.Value, bool) { return in.foremost(order.Greatest) }

// foremost is the item whose key goes ahead of all others; Null, if there is none.
func (in input) foremost(which func(keys []api.Value) (int, api.Errno)) (api.Value, bool) {
	if !in.are(api.Array, api.Array) {
		return misfit()
	}
	at, _ := which(in.itemKeys())
	if at < 0 {
		return given(api.Value{})
	}
	return given(value.Twin(in.v.Items[at]))
}

// itemKeys are the keys of the items, as many as there are: Null, where the argument has none.
func (in input) itemKeys() []api.Value {
	keys := make([]api.Value, len(in.v.Items))
	copy(keys, in.args[0].Items)
	return keys
}
