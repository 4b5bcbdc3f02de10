package sample

import (
	"iter"

	"hallmark/api"
	"hallmark/utf"
	"hallmark/value"
)

// heaviest is the weight that no sample is above.
const heaviest = 4096

// weighed is a value beside its weight, so that what it stands in is weighed without going through it once more.
type weighed struct {
	value  api.Value
	weight int
}

// each is what a list's elements become, one after the other.
func each[T any](list []T, become func(T) api.Value) iter.Seq[weighed] {
	return func(yield func(weighed) bool) {
		for _, one := range list {
			v := become(one)
			if !yield(weighed{v, value.Weight(v)}) {
				return
			}
		}
	}
}

// chain goes through rows, one behind the other.
func chain(rows ...iter.Seq[weighed]) iter.Seq[weighed] {
	return func(yield func(weighed) bool) {
		for _, row := range rows {
			for one := range row {
				if !yield(one) {
					return
				}
			}
		}
	}
}

// once is a row without what is too heavy, and without what stands in it already.
func once(row iter.Seq[weighed]) iter.Seq[weighed] {
	return func(yield func(weighed) bool) {
		met := map[string]int{}
		for one := range row {
			if one.weight > heaviest {
				continue
			}
			mark := string(marked(nil, one.value))
			if met[mark]++; met[mark] == 1 && !yield(one) {
				return
			}
		}
	}
}

// marked is some bytes with those behind them that tell a value from each other one: long rows are looked through by these more quickly than value by value.
func marked(bytes []byte, v api.Value) []byte {
	bytes = append(bytes, byte('0'+v.Kind))
	switch v.Kind {
	case api.Number:
		bytes = append(bytes, v.Num...)
	case api.Text:
		bytes = append(bytes, utf.Quote(v.Text)...)
	}
	for i, item := range v.Items {
		if v.Kind == api.Object {
			bytes = append(bytes, utf.Quote(v.Keys[i])...)
		}
		bytes = marked(bytes, item)
	}
	return append(bytes, '.') // else [[],[]] and [[[]]] would be told alike
}

// pulled is the first n of a row; all, if there are fewer; none, if n is below 0.
func pulled[T any](row iter.Seq[T], n int) []T {
	next, stop := iter.Pull(row)
	defer stop()
	var out []T
	for len(out) < n {
		one, more := next()
		if !more {
			break
		}
		out = append(out, one)
	}
	return out
}
