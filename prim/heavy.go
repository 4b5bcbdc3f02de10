package prim

import (
	"hallmark/api"
	"hallmark/value"
)

// heavy is what a primitive gives up with, if its value would be too heavy.
type heavy struct{}

// weigh gives up at a weight that no value may have.
func weigh(weight int) {
	if weight > api.MaxFuel {
		panic(heavy{})
	}
}

// tried is what a primitive makes of its input, if a row of it fits, and whether that isn't too heavy. What could be far heavier than what was handed in is weighed on the way, piece by piece; all else here, at its end.
func tried(what func(in input) (api.Value, bool), in input) (v api.Value, fits, light bool) {
	defer func() {
		if given := recover(); given != nil {
			_ = given.(heavy) // what it isn't, goes on
			v, fits, light = api.Value{}, false, false
		}
	}()
	v, fits = what(in)
	weigh(value.Weight(v))
	return v, fits, true
}

// array is that of what is made of each element of a list, one after the other, till it is too heavy.
func array[T any](l []T, made func(of T) api.Value) api.Value {
	out, weight := api.Value{Kind: api.Array}, 1
	for _, of := range l {
		item := made(of)
		weight += value.Weight(item)
		weigh(weight)
		out.Items = append(out.Items, item)
	}
	return out
}
