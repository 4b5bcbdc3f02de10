package show

import (
	"strings"

	"hallmark/api"
)

func (p *pen) choice(n *api.Node) {
	p.put("if ")
	p.tell(&n.Kids[0])
	p.put(" then ")
	p.tell(&n.Kids[1])
	p.put(" else ")
	p.tell(&n.Kids[2])
	p.put(" end")
}

// source writes what a name is bound to, and the name.
func (p *pen) source(n *api.Node) {
	p.held(10)(&n.Kids[0])
	p.put(" as $", n.Text, " ")
}

func (p *pen) bind(n *api.Node) {
	p.source(n)
	p.put("| ")
	p.tell(&n.Kids[1])
}

func (p *pen) loop(n *api.Node) {
	begins := "reduce "
	if n.Op == api.Foreach {
		begins = "foreach "
	}
	p.put(begins)
	p.source(n)
	p.put("(")
	p.row(n.Kids[1:])
	p.put(")")
}

func (p *pen) definition(n *api.Node) {
	p.put("def ", n.Text)
	if len(n.Names) > 0 {
		p.put("(", strings.Join(n.Names, "; "), ")")
	}
	p.put(": ")
	p.row(n.Kids) // a semicolon ends the body, too
}

func (p *pen) call(n *api.Node) {
	p.put(n.Text)
	if len(n.Kids) > 0 {
		p.put("(")
		p.row(n.Kids)
		p.put(")")
	}
}

func (p *pen) label(n *api.Node) {
	p.put("label $", n.Text, " | ")
	p.tell(&n.Kids[0])
}
