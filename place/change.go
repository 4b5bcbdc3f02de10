package place

import "hallmark/api"

// plain is a well shaped filter rewritten.
func plain(n *api.Node) api.Node { return freshOf(n).rewritten(n) }

// rewritten is a part without changes, in memory of its own.
func (f fresh) rewritten(n *api.Node) api.Node {
	out := *n
	out.Value.Items, out.Value.Keys = nil, nil // empty they are, but there may be room behind them
	out.Names = append([]string(nil), n.Names...)
	out.Kids = make([]api.Node, len(n.Kids))
	for i := range n.Kids {
		out.Kids[i] = f.rewritten(&n.Kids[i])
	}
	return change{f, n.At}.instead(out)
}

// change is one with the names that it binds, and its place, which all parts have that are new.
type change struct {
	fresh
	at int
}

// instead is what a part becomes whose kids are rewritten.
func (c change) instead(n api.Node) api.Node {
	put, op := c.variable(c.x), n.Op-api.AddTo+api.Add // what is put; the operation that an AddTo and its like are of
	switch n.Op {
	case api.ElseTo:
		op = api.Else
		fallthrough
	case api.AddTo, api.SubTo, api.MulTo, api.DivTo, api.ModTo:
		put = c.lastOf(c.part(op, "", c.part(api.Self, ""), c.variable(c.x)))
		fallthrough
	case api.Put:
		return c.part(api.Bind, c.x, n.Kids[1], c.atEach(n.Kids[0], put))
	case api.Update:
		return c.atEach(n.Kids[0], c.lastOf(n.Kids[1]))
	}
	return n
}

// atEach is the loop over the ways of a filter; at the end of each one this is put.
func (c change) atEach(places, put api.Node) api.Node {
	return c.part(api.Reduce, c.p, c.part(api.Call, "path", places), c.part(api.Self, ""), c.part(api.Call, "setpath", c.variable(c.p), put))
}

// lastOf is the last output of a filter on what stands at the end of the way at hand, or null.
func (c change) lastOf(n api.Node) api.Node {
	there := c.part(api.Call, "getpath", c.variable(c.p))
	return c.part(api.Reduce, c.x, c.part(api.Pipe, "", there, n), c.part(api.Const, ""), c.variable(c.x))
}

func (c change) variable(name string) api.Node { return c.part(api.Var, name) }

// part is a new one; of a Const it is null.
func (c change) part(op int, text string, kids ...api.Node) api.Node {
	return api.Node{Op: op, At: c.at, Text: text, Kids: kids}
}
