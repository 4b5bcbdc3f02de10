package eval

import "hallmark/api"

// manner is what a visit of a part does behind its price: out of way mode, and in it.
type manner struct{ usual, inWays func(v *visit) step }

// alike is a manner that is the same in way mode.
func alike(how func(v *visit) step) manner { return manner{how, how} }

// alone is the manner of a part that names no places.
func alone(how func(v *visit) step) manner { return manner{how, (*visit).noWay} }

// manners are those of parts that ask for no name, by their Ops.
func manners() [api.Break + 1]manner {
	return [...]manner{
		api.Self:    alike((*visit).self),
		api.Const:   alone((*visit).constant),
		api.Join:    alone((*visit).join),
		api.List:    alone((*visit).list),
		api.Record:  alone((*visit).record),
		api.Index:   alike((*visit).index),
		api.Slice:   alone((*visit).slice),
		api.Each:    alike((*visit).each),
		api.Try:     alike((*visit).try),
		api.Neg:     alone((*visit).neg),
		api.Pipe:    alike((*visit).pipe),
		api.Both:    alike((*visit).both),
		api.Add:     alone((*visit).reckon),
		api.Sub:     alone((*visit).reckon),
		api.Mul:     alone((*visit).reckon),
		api.Div:     alone((*visit).reckon),
		api.Mod:     alone((*visit).reckon),
		api.Eq:      alone((*visit).compare),
		api.Ne:      alone((*visit).compare),
		api.Lt:      alone((*visit).compare),
		api.Le:      alone((*visit).compare),
		api.Gt:      alone((*visit).compare),
		api.Ge:      alone((*visit).compare),
		api.And:     alone((*visit).and),
		api.Or:      alone((*visit).or),
		api.Else:    alike((*visit).otherwise),
		api.If:      alike((*visit).branch),
		api.Bind:    alike((*visit).bind),
		api.Reduce:  alone((*visit).reduce),
		api.Foreach: alone((*visit).foreach),
		api.Def:     alike((*visit).define),
		api.Label:   alike((*visit).label),
		api.Break:   {},
	}
}

// builtIn is the manner of a Call of what is built in.
func builtIn(asked name) manner {
	switch asked {
	case function("empty", 0):
		return alike((*visit).empty)
	case function("error", 0):
		return alike((*visit).raise)
	case function("error", 1):
		return alike((*visit).raiseFirst)
	case function("range", 2):
		return alone((*visit).span)
	case function("path", 1):
		return alone((*visit).paths)
	case function("getpath", 1):
		return manner{(*visit).primitive, (*visit).getpath}
	}
	return alone((*visit).primitive)
}
