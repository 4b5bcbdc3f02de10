package eval

import (
	"strings"

	"hallmark/api"
	"hallmark/arith"
	"hallmark/prim"
	"hallmark/value"
)

// What is put together of much is paid for piece by piece, ahead of being made: so nothing is made that is far too heavy.

func (v *visit) join() step {
	return v.forEachRow(0, 1, nil, v.out.done, func(r *row, rest step) step {
		v.run.pay(1)
		pieces := make([]string, len(v.part.kids))
		for i := range pieces {
			at := len(pieces) - 1 - i
			pieces[at] = prim.String(*r.x)
			v.run.pay(len(pieces[at]))
			r = r.outer
		}
		return v.give(spot{v: &api.Value{Kind: api.Text, Text: strings.Join(pieces, "")}}, rest)
	})
}

func (v *visit) list() step {
	if len(v.part.kids) == 0 {
		return v.giveMade(api.Value{Kind: api.Array}, v.out.done)
	}
	var items []api.Value
	end := func() step { return v.giveItems(items) }
	return v.forEach(0, end, func(x spot, rest step) step {
		if len(items) < v.run.left { // else they can't be paid any more, whatever comes
			items = append(items, *x.v)
		}
		return rest
	})
}

func (v *visit) giveItems(items []api.Value) step {
	v.run.pay(1)
	for _, item := range items {
		v.run.pay(value.Weight(item))
	}
	return v.give(spot{v: &api.Value{Kind: api.Array, Items: items}}, v.out.done)
}

func (v *visit) record() step { return v.fields(0, nil, v.out.done) }

// fields goes through the outputs of the keys and values from one on, each within those of the ones ahead.
func (v *visit) fields(at int, outer *row, rest step) step {
	if at == len(v.part.kids) {
		return v.giveObject(outer, rest)
	}
	return v.forEach(at, rest, func(x spot, rest step) step {
		if at%2 == 0 && x.v.Kind != api.Text {
			return v.failWith("key")
		}
		return v.fields(at+1, &row{x.v, outer}, rest)
	})
}

// giveObject goes from the last key and value to the first: of keys that are alike the one that counts is met first.
func (v *visit) giveObject(r *row, rest step) step {
	var keys []string
	var items []api.Value
	met := map[string]int{}
	v.run.pay(1)
	for ; r != nil; r = r.outer.outer {
		key, item := r.outer.x.Text, *r.x
		met[key]++
		if met[key] == 1 {
			v.run.pay(1 + len(key) + value.Weight(item))
			keys, items = append(keys, key), append(items, item)
		}
	}
	made, _ := value.Make(keys, items)
	return v.give(spot{v: &made}, rest)
}

func (v *visit) slice() step {
	return v.forEachRow(0, 1, nil, v.out.done, func(r *row, rest step) step {
		a := answered(arith.Slice(*r.outer.outer.x, *r.outer.x, *r.x))
		return v.goOn(a, a.v.Kind != api.Null, rest)
	})
}

func (v *visit) neg() step {
	return v.forEach(0, v.out.done, func(x spot, rest step) step {
		return v.goOn(answered(arith.Neg(*x.v)), true, rest)
	})
}

func (v *visit) reckon() step { return v.operation(true) }

func (v *visit) compare() step { return v.operation(false) }

func (v *visit) operation(made bool) step {
	return v.forEachRow(1, -1, nil, v.out.done, func(r *row, rest step) step {
		return v.goOn(answered(arith.Do(v.part.op, *r.x, *r.outer.x)), made, rest)
	})
}

func (v *visit) primitive() step {
	return v.forEachRow(len(v.part.kids)-1, -1, nil, v.out.done, func(r *row, rest step) step {
		var args []api.Value
		for ; r != nil; r = r.outer {
			args = append(args, *r.x)
		}
		return v.goOn(answered(prim.Do(v.part.text, *v.on.v, args)), true, rest)
	})
}
