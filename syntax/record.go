package syntax

import (
	"hallmark/api"
	"hallmark/word"
)

func (p *parser) record() api.Node {
	out := api.Node{Op: api.Record, At: p.enter("{").At}
	if !p.says("}") {
		out.Kids = p.entry(nil)
		for p.takes(",") {
			out.Kids = p.entry(out.Kids)
		}
	}
	p.leave("}")
	return out
}

// entry puts a key and its value behind those that are there.
func (p *parser) entry(kids []api.Node) []api.Node {
	switch first := p.here(); first.Kind {
	case word.Name, word.Own, word.Text, word.Var:
		p.take()
		kids = append(kids, said(first))
		if !p.says(":") {
			return append(kids, short(first))
		}
	case word.Begin:
		kids = append(kids, p.text())
	default:
		kids = append(kids, p.group())
	}
	p.must(":")
	return append(kids, p.operand(bindsElse))
}

// short is the value of an entry that is nothing but its key.
func short(key api.Token) api.Node {
	if key.Kind == word.Var {
		return variable(key)
	}
	return field(key)
}
