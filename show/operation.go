package show

import "hallmark/api"

// operation is what has two kids and a sign between them: how loose it is, and how loose its kids may be.
type operation struct {
	sign               string
	loose, left, right int
}

// operations stand at their Ops.
var operations = [...]operation{
	api.Pipe: {" | ", 0, 1, 0}, api.Both: {", ", 1, 1, 2},
	api.Add: {" + ", 7, 7, 8}, api.Sub: {" - ", 7, 7, 8},
	api.Mul: {" * ", 8, 8, 9}, api.Div: {" / ", 8, 8, 9}, api.Mod: {" % ", 8, 8, 9},
	api.Eq: {" == ", 6, 7, 7}, api.Ne: {" != ", 6, 7, 7},
	api.Lt: {" < ", 6, 7, 7}, api.Le: {" <= ", 6, 7, 7}, api.Gt: {" > ", 6, 7, 7}, api.Ge: {" >= ", 6, 7, 7},
	api.And: {" and ", 5, 5, 6}, api.Or: {" or ", 4, 4, 5}, api.Else: {" // ", 3, 4, 3},
	api.Put: {" = ", 2, 3, 3}, api.Update: {" |= ", 2, 3, 3},
	api.AddTo: {" += ", 2, 3, 3}, api.SubTo: {" -= ", 2, 3, 3},
	api.MulTo: {" *= ", 2, 3, 3}, api.DivTo: {" /= ", 2, 3, 3}, api.ModTo: {" %= ", 2, 3, 3},
	api.ElseTo: {" //= ", 2, 3, 3},
}

func isOperation(op int) bool { return operations[op].sign != "" }

func (p *pen) operation(n *api.Node) {
	row := operations[n.Op]
	p.held(row.left)(&n.Kids[0])
	p.put(row.sign)
	p.held(row.right)(&n.Kids[1])
}

func (p *pen) neg(n *api.Node) {
	p.put("-")
	if n.Kids[0].Op == api.Neg { // nothing else that stands here without brackets begins with a sign
		p.put(" ")
	}
	p.held(9)(&n.Kids[0])
}
