package eval

import (
	"hallmark/api"
	"hallmark/value"
)

// step does a little of a run and answers what is to be done next; nil, where the run stops. No step is taken within another one: however deep in one another the parts lie that a run visits, it needs no deep stack.
type step func() step

// sink is what goes on around a visit.
type sink struct {
	give func(x spot, rest step) step // what is done with an output, ahead of the rest of the visit
	done step
	fail func(fault *api.Value) step
}

// then is the sink of a visit behind which something else is to be done.
func (s sink) then(rest step) sink { return sink{s.give, rest, s.fail} }

// spot is what a part is visited on, and what it gives: a value and, in way mode alone, the way to it. What is made in a run isn't written into any more, so spots may share it.
type spot struct {
	v   *api.Value
	way *way
}

// bare is the spot out of way mode.
func (s spot) bare() spot { return spot{v: s.v} }

// weight is that of what the spot is an output by.
func (s spot) weight() int {
	if s.way != nil {
		return s.way.weight
	}
	return value.Weight(*s.v)
}

// run is how far a run has come.
type run struct {
	left  int
	given *spot // the output that it has just given
	rest  step  // what is to be done behind that
	end   int
	fault api.Value
}

// spent is what a run leaves with, when it can't pay.
type spent struct{}

// started is a run that has come to nothing yet.
func started(filter *part, on spot, fuel int) *run {
	r := &run{left: fuel}
	whole := visit{run: r, part: filter, on: on, names: noNames(), out: sink{r.give, r.done, r.fail}}
	r.rest = whole.begin
	return r
}

func (r *run) give(x spot, rest step) step {
	r.pay(x.weight())
	r.given, r.rest = &x, rest
	return nil
}

func (r *run) done() step { return nil }

func (r *run) fail(fault *api.Value) step {
	r.end, r.fault = api.Failed, value.Twin(*fault)
	return nil
}

// goOn goes on up to the next output, and says whether there is one.
func (r *run) goOn() bool {
	defer func() {
		if why := recover(); why != nil {
			_ = why.(spent) // what it isn't, goes on
			r.left, r.end = 0, api.Spent
		}
	}()
	r.given = nil
	for next := r.rest; next != nil; {
		next = next()
	}
	return r.given != nil
}

// result is what a run that has ended has come to, but for the outputs.
func (r *run) result() api.Result {
	return api.Result{End: r.end, Fault: r.fault, Left: r.left}
}

func (r *run) pay(price int) {
	if price > r.left {
		panic(spent{})
	}
	r.left -= price
}
