package show

import (
	"strings"

	"hallmark/api"
)

// pen writes parts of a well shaped filter one behind the other: into one text, as texts of parts put together anew in each part around them would cost their length times their depth.
type pen struct {
	text strings.Builder
}

func (p *pen) put(pieces ...string) {
	for _, piece := range pieces {
		p.text.WriteString(piece)
	}
}

// tell writes a part as it is; that is 0(x), too, as nothing is looser than 0.
func (p *pen) tell(n *api.Node) { p.way(n.Op)(n) }

// way is how parts of an Op are told.
func (p *pen) way(op int) func(n *api.Node) {
	switch op {
	case api.Self:
		return p.self
	case api.Const:
		return p.constant
	case api.Join:
		return p.join
	case api.List:
		return p.list
	case api.Record:
		return p.record
	case api.Var, api.Break:
		return p.variable
	case api.Index:
		return p.index
	case api.Slice:
		return p.slice
	case api.Each:
		return p.each
	case api.Try:
		return p.try
	case api.Neg:
		return p.neg
	case api.If:
		return p.choice
	case api.Bind:
		return p.bind
	case api.Reduce, api.Foreach:
		return p.loop
	case api.Def:
		return p.definition
	case api.Call:
		return p.call
	case api.Label:
		return p.label
	}
	return p.operation
}

// always is a k that every part is looser than.
const always = 11

// held is the chapter's k(x) for a k: it writes a part, in brackets if the part is looser than k.
func (p *pen) held(k int) func(n *api.Node) {
	return func(n *api.Node) {
		if looseness(n) >= k {
			p.tell(n)
			return
		}
		p.put("(")
		p.tell(n)
		p.put(")")
	}
}

// looseness is how loose a part is: 0 is the loosest.
func looseness(n *api.Node) int {
	switch n.Op {
	case api.Bind, api.Def, api.Label:
		return 0
	case api.Neg:
		return 9
	case api.Try:
		return 11 - len(n.Kids) // with a handler it ends in a post, which takes what stands behind it
	}
	if isOperation(n.Op) {
		return operations[n.Op].loose
	}
	return 10
}
