package syntax

import (
	"hallmark/api"
	"hallmark/word"
)

// How tightly operations bind, from the loosest on.
const (
	bindsBoth = iota + 1
	bindsChange
	bindsElse
	bindsOr
	bindsAnd
	bindsCompare
	bindsSum
	bindsProduct
)

// From which side operations that bind alike group; not at all, where a second one can't stand.
const (
	fromLeft = iota
	fromRight
	notAtAll
)

// operation is a word between two parts, and the part that it makes of them.
type operation struct {
	text   string
	op     int
	binds  int
	groups int
}

var operations = [...]operation{
	{",", api.Both, bindsBoth, fromLeft},
	{"=", api.Put, bindsChange, notAtAll},
	{"|=", api.Update, bindsChange, notAtAll},
	{"+=", api.AddTo, bindsChange, notAtAll},
	{"-=", api.SubTo, bindsChange, notAtAll},
	{"*=", api.MulTo, bindsChange, notAtAll},
	{"/=", api.DivTo, bindsChange, notAtAll},
	{"%=", api.ModTo, bindsChange, notAtAll},
	{"//=", api.ElseTo, bindsChange, notAtAll},
	{"//", api.Else, bindsElse, fromRight},
	{"or", api.Or, bindsOr, fromLeft},
	{"and", api.And, bindsAnd, fromLeft},
	{"==", api.Eq, bindsCompare, notAtAll},
	{"!=", api.Ne, bindsCompare, notAtAll},
	{"<", api.Lt, bindsCompare, notAtAll},
	{"<=", api.Le, bindsCompare, notAtAll},
	{">", api.Gt, bindsCompare, notAtAll},
	{">=", api.Ge, bindsCompare, notAtAll},
	{"+", api.Add, bindsSum, fromLeft},
	{"-", api.Sub, bindsSum, fromLeft},
	{"*", api.Mul, bindsProduct, fromLeft},
	{"/", api.Div, bindsProduct, fromLeft},
	{"%", api.Mod, bindsProduct, fromLeft},
}

// operation is the one that the next word stands for; what stands for none binds more loosely than all.
func (p *parser) operation() operation {
	x := p.here()
	if x.Kind == word.Mark || x.Kind == word.Own {
		for _, o := range operations {
			if o.text == x.Text {
				return o
			}
		}
	}
	return operation{}
}

// mostBehind is how tightly the next operation behind this one and its operands may bind.
func (o operation) mostBehind() int {
	if o.groups == notAtAll {
		return o.binds - 1
	}
	return o.binds
}

// operand is a part whose operations, but for those in brackets, bind at least so tightly.
func (p *parser) operand(least int) api.Node { return p.behind(p.unary(), least) }

// behind is such a part whose first operand has been read.
func (p *parser) behind(left api.Node, least int) api.Node {
	var waiting []api.Node // for what is behind: operations that group from the right
	most := bindsProduct
	for {
		o := p.operation()
		if o.binds < least || o.binds > most {
			return within(waiting, left)
		}
		out := api.Node{Op: o.op, At: p.take().At}
		right := p.operand(o.binds + 1)
		if o.groups == fromRight {
			out.Kids = []api.Node{left}
			waiting, left = append(waiting, out), right
		} else {
			out.Kids = []api.Node{within(waiting, left), right}
			waiting, left = nil, out
		}
		most = o.mostBehind()
	}
}

// unary is a part that no operation is in, but signs ahead of it.
func (p *parser) unary() api.Node {
	var signs []api.Node
	for p.says("-") {
		signs = append(signs, api.Node{Op: api.Neg, At: p.take().At})
	}
	return within(signs, p.post())
}
