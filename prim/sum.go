package prim

import (
	"hallmark/api"
	"hallmark/arith"
	"hallmark/tens"
	"hallmark/value"
)

// sum is what an array's items make, added up one after the other. The first sum that doesn't go well or is too heavy is the last one, so what is too heavy ahead of a fault hides it.
func (in input) sum() (api.Value, bool) {
	if in.are(api.Null) {
		return given(api.Value{})
	}
	if !in.are(api.Array) {
		return misfit()
	}
	l, all := row(in.v.Items).summands()
	weigh(l.heaviest())
	if !all {
		return misfit()
	}
	return given(l.total())
}

// summands are the items that change a sum, up to the first one that can't be added to those ahead of it; all says whether there is no such one. Of two values neither of which is Null there is a sum just if they are of one kind, from Number on.
func (r row) summands() (l row, all bool) {
	for _, item := range r {
		switch {
		case item.Kind == api.Null:
		case len(l) > 0 && (item.Kind != l[0].Kind || item.Kind < api.Number):
			return l, false
		default:
			l = append(l, item)
		}
	}
	return l, true
}

// total is the sum of values of one kind. It goes by halves, which changes nothing but the price: one by one, very many items would cost their number times what they weigh together.
func (r row) total() api.Value {
	switch len(r) {
	case 0:
		return api.Value{}
	case 1:
		return value.Twin(r[0])
	}
	half := len(r) / 2
	v, _, _ := arith.Do(api.Add, r[:half].total(), r[half:].total())
	return v
}

// heaviest is what the heaviest of the sums weighs that one comes by, if values of one kind are added up one after the other.
func (r row) heaviest() int {
	switch {
	case len(r) > 0 && r[0].Kind == api.Number:
		way := walked(r)
		return max(value.Weight(number(way.low)), value.Weight(number(way.high)))
	case len(r) > 0 && r[0].Kind == api.Object:
		return r.heaviestObject()
	}
	weight := 1 // all else becomes no lighter by what comes behind it
	for _, v := range r {
		weight += value.Weight(v) - 1
	}
	return weight
}

// heaviestObject is it of objects: a field may be lighter than the one in whose place it comes.
func (r row) heaviestObject() int {
	fields := map[string]int{} // what they weigh now, with their names
	weight, most := 1, 1
	for _, v := range r {
		for i, key := range v.Keys {
			field := 1 + len(key) + value.Weight(v.Items[i])
			weight += field - fields[key]
			fields[key] = field
		}
		most = max(most, weight)
	}
	return most
}

// walk is where numbers lead that are added up one after the other: to which one, and between which ones.
type walk struct{ end, low, high string }

// walked goes by halves, as the total does.
func walked(r row) walk {
	if len(r) == 1 {
		return walk{r[0].Num, r[0].Num, r[0].Num}
	}
	half := len(r) / 2
	a, b := walked(r[:half]), walked(r[half:])
	return walk{plus(a.end, b.end), outer(-1, a.low, plus(a.end, b.low)), outer(1, a.high, plus(a.end, b.high))}
}

func plus(a, b string) string {
	n, _ := tens.Add(a, b)
	return n
}

// outer is that of two numbers which lies further to a side: -1 the lesser, 1 the greater one.
func outer(side int, a, b string) string {
	if at, _ := tens.Cmp(b, a); at == side {
		return b
	}
	return a
}
