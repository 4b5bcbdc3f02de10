package eval

import (
	"hallmark/api"
	"hallmark/path"
	"hallmark/tens"
)

// within is how many calls a call stands within at the price of 1.
const within = 16

func (v *visit) payCall() { v.run.pay(v.calls / within) }

func (v *visit) definition() step {
	v.payCall()
	def := v.names.at(v.part.level)
	return v.withValues(def.part, def.with(meaning{part: v.part, names: v.names}), 0, v.out.done)
}

// withValues goes through the outputs of the parts that stand for names with $, from one of these on, each within those of the ones ahead; with them the body of the definition is visited.
func (v *visit) withValues(def *part, names *frame, from int, rest step) step {
	if from == len(def.valued) {
		return v.inner(&def.kids[0], names, rest)
	}
	return v.forEach(def.valued[from], rest, func(x spot, rest step) step {
		return v.withValues(def, names.with(meaning{value: x.v}), from+1, rest)
	})
}

// inner is the visit of a part that stands within the call.
func (v *visit) inner(p *part, names *frame, rest step) step {
	return (&visit{v.run, p, v.on, names, v.calls + 1, v.out.then(rest)}).begin
}

func (v *visit) parameter() step {
	v.payCall()
	call := v.names.at(v.part.level)
	return v.inner(&call.part.kids[v.part.place], call.names, v.out.done)
}

// valueOfParameter is a Call of a parameter with $.
func (v *visit) valueOfParameter() step {
	v.payCall()
	if v.on.way != nil {
		return v.noWay()
	}
	return v.variable()
}

func (v *visit) empty() step { return v.out.done }

func (v *visit) raise() step { return v.fail(v.on.v) }

func (v *visit) raiseFirst() step {
	return v.forEach(0, v.out.done, func(x spot, _ step) step { return v.fail(x.v) })
}

func (v *visit) span() step {
	return v.forEachRow(1, -1, nil, v.out.done, func(r *row, rest step) step {
		if r.x.Kind != api.Number || r.outer.x.Kind != api.Number {
			return v.failWith("range")
		}
		return v.numbers(r.x.Num, r.outer.x.Num, rest)
	})
}

// numbers hands on those from one on that are below another one.
func (v *visit) numbers(from, to string, rest step) step {
	if side, _ := tens.Cmp(from, to); side >= 0 {
		return rest
	}
	return v.giveMade(api.Value{Kind: api.Number, Num: from}, func() step {
		next, _ := tens.Add(from, "1")
		return v.numbers(next, to, rest)
	})
}

func (v *visit) paths() step {
	return v.kid(0, spot{v.on.v, noKeys()}, v.names, sink{func(x spot, rest step) step {
		v.run.pay(x.way.weight)
		keys := x.way.keys()
		return v.give(spot{v: &keys}, rest)
	}, v.out.done, v.out.fail})
}

// getpath is that of way mode.
func (v *visit) getpath() step {
	return v.forEach(0, v.out.done, func(keys spot, rest step) step {
		if keys.v.Kind != api.Array {
			return v.failWith("getpath")
		}
		part, e := path.Get(*v.on.v, keys.v.Items)
		if e != api.OK {
			return v.failWith("getpath")
		}
		return v.give(spot{&part, v.on.way.by(keys.v.Items...)}, rest)
	})
}
