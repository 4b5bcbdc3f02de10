package arith

import (
	"hallmark/api"
	"hallmark/value"
)

// given is the answer that is a value.
func given(out api.Value) (v, fault api.Value, ok bool) { return out, api.Value{}, true }

// failed is the answer that is a fault.
func failed(word string) (v, fault api.Value, ok bool) { return api.Value{}, Fault(word), false }

// neither is the answer that is no value and no fault.
func neither() (v, fault api.Value, ok bool) { return api.Value{}, api.Value{}, false }

// reckoned is the answer that layer 1 has worked out. It refuses nothing: the numbers are well shaped, and who divides looks at its error first.
func reckoned(n string, _ api.Errno) (v, fault api.Value, ok bool) { return given(number(n)) }

// joined is the answer that layer 3 has put together of two well shaped objects, which it doesn't refuse either.
func joined(object api.Value, _ api.Errno) (v, fault api.Value, ok bool) { return given(object) }

// decided is the answer of a comparison.
func decided(is bool) (v, fault api.Value, ok bool) {
	if is {
		return given(api.Value{Kind: api.True})
	}
	return given(api.Value{Kind: api.False})
}

func number(n string) api.Value { return api.Value{Kind: api.Number, Num: n} }

func text(s string) api.Value { return api.Value{Kind: api.Text, Text: s} }

// array is in memory of its own, whoever has the items.
func array(items []api.Value) api.Value {
	return value.Twin(api.Value{Kind: api.Array, Items: items})
}
