package schema

import (
	"hallmark/api"
	"hallmark/tens"
	"hallmark/token"
)

// row is the tokens of a text that says one value. A value in it is told by the number of its first token.
type row []api.Token

// placeOf is the place of the first byte of that part of a text's value to which a way leads.
func placeOf(s string, way []api.Value) int {
	tokens, _, _ := token.Scan(s)
	in, at := row(tokens), 0
	for _, step := range way {
		if step.Kind == api.Text {
			at = in.field(at, step.Text)
		} else {
			at = in.item(at, step.Num)
		}
	}
	return in[at].At
}

// field is the field of an object under a key, which the object has.
func (in row) field(at int, key string) int {
	for at++; in[at].Text != key; at++ {
		at = in.behind(at + 2)
	}
	return at + 2
}

// item is the item of an array at a place, which the array has.
func (in row) item(at int, place string) int {
	ahead, _ := tens.Small(place)
	at++
	for range ahead {
		at = in.behind(at) + 1
	}
	return at
}

// behind is the token behind a value.
func (in row) behind(at int) int {
	for open := 0; ; at++ {
		switch in[at].Kind {
		case token.OpenObject, token.OpenArray:
			open++
		case token.CloseObject, token.CloseArray:
			open--
		}
		if open == 0 {
			return at + 1
		}
	}
}
