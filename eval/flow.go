package eval

import (
	"hallmark/api"
	"hallmark/value"
)

func (v *visit) self() step { return v.give(v.on, v.out.done) }

func (v *visit) constant() step { return v.give(spot{v: v.part.value}, v.out.done) }

func (v *visit) variable() step {
	return v.give(spot{v: v.names.at(v.part.level).value}, v.out.done)
}

func (v *visit) index() step {
	return v.kid(0, v.on, v.names, sink{v.indexed, v.out.done, v.out.fail})
}

func (v *visit) indexed(of spot, rest step) step {
	return v.forEach(1, rest, func(key spot, rest step) step {
		if x, fits := of.under(key.v); fits {
			return v.give(x, rest)
		}
		return v.failWith("index")
	})
}

func (v *visit) each() step {
	return v.kid(0, v.on, v.names, sink{v.inside, v.out.done, v.out.fail})
}

func (v *visit) inside(of spot, rest step) step {
	if of.v.Kind != api.Array && of.v.Kind != api.Object {
		return v.failWith("each")
	}
	return v.items(of, 0, rest)
}

// items hands on the items from one on.
func (v *visit) items(of spot, from int, rest step) step {
	if from == len(of.v.Items) {
		return rest
	}
	return v.give(of.item(from), func() step { return v.items(of, from+1, rest) })
}

func (v *visit) pipe() step {
	return v.kid(0, v.on, v.names, sink{v.piped, v.out.done, v.out.fail})
}

func (v *visit) piped(x spot, rest step) step { return v.kid(1, x, v.names, v.out.then(rest)) }

func (v *visit) both() step {
	second := v.kid(1, v.on, v.names, v.out)
	return v.kid(0, v.on, v.names, v.out.then(second))
}

func (v *visit) and() step { return v.decided(false) }

func (v *visit) or() step { return v.decided(true) }

// decided is And or Or, where what is so true is enough.
func (v *visit) decided(by bool) step {
	return v.forEach(0, v.out.done, func(a spot, rest step) step {
		if value.True(*a.v) == by {
			return v.giveTruth(by, rest)
		}
		return v.forEach(1, rest, func(b spot, rest step) step { return v.giveTruth(value.True(*b.v), rest) })
	})
}

func (v *visit) otherwise() step {
	given := false
	end := func() step {
		if given {
			return v.out.done
		}
		return v.kid(1, v.on, v.names, v.out)
	}
	return v.kid(0, v.on, v.names, sink{
		give: func(x spot, rest step) step {
			if !value.True(*x.v) {
				return rest
			}
			given = true
			return v.give(x, rest)
		},
		done: end,
		fail: func(*api.Value) step { return end },
	})
}

func (v *visit) branch() step {
	return v.forEach(0, v.out.done, func(x spot, rest step) step {
		if value.True(*x.v) {
			return v.kid(1, v.on, v.names, v.out.then(rest))
		}
		return v.kid(2, v.on, v.names, v.out.then(rest))
	})
}

func (v *visit) try() step {
	return v.kid(0, v.on, v.names, sink{v.out.give, v.out.done, v.caught})
}

func (v *visit) caught(fault *api.Value) step {
	switch {
	case len(v.part.kids) == 1:
		return v.out.done
	case v.on.way != nil:
		return v.noWay()
	}
	return v.kid(1, spot{v: fault}, v.names, v.out)
}

func (v *visit) bind() step {
	return v.forEach(0, v.out.done, func(x spot, rest step) step {
		return v.kid(1, v.on, v.names.with(meaning{value: x.v}), v.out.then(rest))
	})
}

func (v *visit) reduce() step {
	return v.lastOf(1, v.on.v, v.names, func(state *api.Value) step {
		end := func() step { return v.give(spot{v: state}, v.out.done) }
		return v.forEach(0, end, func(x spot, rest step) step {
			return v.lastOf(2, state, v.names.with(meaning{value: x.v}), func(last *api.Value) step {
				state = last
				return rest
			})
		})
	})
}

func (v *visit) foreach() step {
	return v.forEach(1, v.out.done, func(first spot, rest step) step {
		state := first.v
		return v.forEach(0, rest, func(x spot, rest step) step {
			names := v.names.with(meaning{value: x.v})
			return v.kid(2, spot{v: state}, names, sink{func(y spot, rest step) step {
				state = y.v
				return v.extracted(y, names, rest)
			}, rest, v.out.fail})
		})
	})
}

// extracted hands on what a Foreach gives of a state.
func (v *visit) extracted(state spot, names *frame, rest step) step {
	if len(v.part.kids) == 3 {
		return v.give(state, rest)
	}
	return v.kid(3, state, names, v.out.then(rest))
}

func (v *visit) define() step {
	return v.kid(1, v.on, v.names.with(meaning{part: v.part}), v.out)
}

func (v *visit) label() step {
	return v.kid(0, v.on, v.names.with(meaning{end: v.out.done}), v.out)
}

// leave is a Break.
func (v *visit) leave() step { return v.names.at(v.part.level).end }
