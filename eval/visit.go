package eval

import (
	"hallmark/api"
	"hallmark/arith"
	"hallmark/value"
)

// visit is one of a part.
type visit struct {
	run   *run
	part  *part
	on    spot
	names *frame
	calls int // those that it stands within
	out   sink
}

// begin is the visit's first step.
func (v *visit) begin() step {
	v.run.pay(1)
	if v.on.way != nil {
		return v.part.inWays(v)
	}
	return v.part.usual(v)
}

// kid is the visit of a kid.
func (v *visit) kid(at int, on spot, names *frame, out sink) step {
	return (&visit{v.run, &v.part.kids[at], on, names, v.calls, out}).begin
}

// forEach visits a kid on the input, out of way mode, and does something with each output; the rest comes behind.
func (v *visit) forEach(at int, rest step, do func(x spot, rest step) step) step {
	if v.part.kids[at].op == api.None { // it counts as an output
		return do(spot{v: &api.Value{}}, rest)
	}
	return v.kid(at, v.on.bare(), v.names, sink{do, rest, v.out.fail})
}

// lastOf visits a kid likewise, and does something with its last output, or Null.
func (v *visit) lastOf(at int, on *api.Value, names *frame, do func(last *api.Value) step) step {
	last := &api.Value{}
	return v.kid(at, spot{v: on}, names, sink{
		give: func(x spot, rest step) step {
			last = x.v
			return rest
		},
		done: func() step { return do(last) },
		fail: v.out.fail,
	})
}

// row is outputs of several kids, those of the inner ones ahead.
type row struct {
	x     *api.Value
	outer *row
}

// forEachRow goes through the outputs of the kids from one on, step by step, each within those of the ones ahead.
func (v *visit) forEachRow(at, by int, outer *row, rest step, do func(r *row, rest step) step) step {
	if at < 0 || at == len(v.part.kids) {
		return do(outer, rest)
	}
	return v.forEach(at, rest, func(x spot, rest step) step {
		return v.forEachRow(at+by, by, &row{x.v, outer}, rest, do)
	})
}

// give hands an output on.
func (v *visit) give(x spot, rest step) step {
	return func() step { return v.out.give(x, rest) }
}

// giveMade hands on a value that is made.
func (v *visit) giveMade(x api.Value, rest step) step {
	v.run.pay(value.Weight(x))
	return v.give(spot{v: &x}, rest)
}

func (v *visit) giveTruth(holds bool, rest step) step {
	x := api.Value{Kind: api.False}
	if holds {
		x.Kind = api.True
	}
	return v.give(spot{v: &x}, rest)
}

// fail ends the visit with a fault.
func (v *visit) fail(fault *api.Value) step {
	return func() step { return v.out.fail(fault) }
}

func (v *visit) failWith(word string) step {
	fault := arith.Fault(word)
	return v.fail(&fault)
}

// noWay is what becomes of a part that names no places, in way mode.
func (v *visit) noWay() step { return v.failWith("path") }

// answer is what arith or prim answers: a value, or a fault, or neither.
type answer struct {
	v, fault api.Value
	ok       bool
}

func answered(v, fault api.Value, ok bool) answer { return answer{v, fault, ok} }

// goOn goes on with an answer, whose value is made or only handed on.
func (v *visit) goOn(a answer, made bool, rest step) step {
	switch {
	case a.ok && made:
		return v.giveMade(a.v, rest)
	case a.ok:
		return v.give(spot{v: &a.v}, rest)
	case a.fault.Kind == api.Text:
		return v.fail(&a.fault)
	}
	panic(spent{})
}
