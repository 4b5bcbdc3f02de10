package reader

import (
	"maps"
	"slices"

	"hallmark/api"
	"hallmark/token"
)

// value is the value that a token begins; as an array or object it would be so deep.
func (in *input) value(first api.Token, deep int) api.Value {
	switch first.Kind {
	case token.Null:
		return api.Value{Kind: api.Null}
	case token.False:
		return api.Value{Kind: api.False}
	case token.True:
		return api.Value{Kind: api.True}
	case token.Number:
		return api.Value{Kind: api.Number, Num: first.Text}
	case token.Text:
		return api.Value{Kind: api.Text, Text: first.Text}
	case token.OpenArray:
		mayBe(deep, first)
		return in.array(deep)
	case token.OpenObject:
		mayBe(deep, first)
		return in.object(deep)
	}
	panic(fault{api.ErrToken, first.At})
}

// mayBe gives up at a bracket that opens something too deep.
func mayBe(deep int, bracket api.Token) {
	if deep > api.MaxDepth {
		panic(fault{api.ErrDeep, bracket.At})
	}
}

// array is the array whose bracket has been taken.
func (in *input) array(deep int) api.Value {
	out := api.Value{Kind: api.Array}
	in.row(token.CloseArray, func(first api.Token) {
		out.Items = append(out.Items, in.value(first, deep+1))
	})
	return out
}

// object is the object whose bracket has been taken.
func (in *input) object(deep int) api.Value {
	fields := map[string]api.Value{}
	in.row(token.CloseObject, func(key api.Token) {
		mustBe(token.Text, key)
		if _, twice := fields[key.Text]; twice {
			panic(fault{api.ErrTwice, key.At})
		}
		mustBe(token.Colon, in.must())
		fields[key.Text] = in.value(in.must(), deep+1)
	})
	return gathered(fields)
}

// row goes through parts with a Comma between each two, up to the closing bracket; each one is read from its first token on.
func (in *input) row(closing int, part func(first api.Token)) {
	first := in.must()
	if first.Kind == closing {
		return
	}
	part(first)
	for {
		x := in.must()
		if x.Kind == closing {
			return
		}
		mustBe(token.Comma, x)
		part(in.must())
	}
}

// mustBe gives up at a token of another kind.
func mustBe(kind int, x api.Token) {
	if x.Kind != kind {
		panic(fault{api.ErrToken, x.At})
	}
}

// gathered is the object of these fields. (value.Make would copy at each level all that lies below it.)
func gathered(fields map[string]api.Value) api.Value {
	out := api.Value{Kind: api.Object}
	for _, key := range slices.Sorted(maps.Keys(fields)) {
		out.Keys = append(out.Keys, key)
		out.Items = append(out.Items, fields[key])
	}
	return out
}
