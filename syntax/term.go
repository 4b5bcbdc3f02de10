package syntax

import (
	"math"

	"hallmark/api"
	"hallmark/word"
)

// term is a term, but for those that await a post.
func (p *parser) term() api.Node {
	switch p.here().Kind {
	case word.Mark:
		return p.marked()
	case word.Own:
		return p.owned()
	case word.Field:
		return field(p.take())
	case word.Number:
		x := p.take()
		return constant(x.At, api.Value{Kind: api.Number, Num: x.Text})
	case word.Text, word.Begin:
		return p.text()
	case word.Var:
		return variable(p.take())
	case word.Name:
		return p.call()
	}
	panic(p.fault())
}

// marked is a term that begins with a mark.
func (p *parser) marked() api.Node {
	switch p.here().Text {
	case ".":
		return p.dot()
	case "..":
		return api.Node{Op: api.Call, At: p.take().At, Text: "recurse"}
	case "(":
		return p.group()
	case "[":
		return p.list()
	case "{":
		return p.record()
	}
	panic(p.fault())
}

// owned is a term that begins with one of the language's own words.
func (p *parser) owned() api.Node {
	switch p.here().Text {
	case "null":
		return constant(p.take().At, api.Value{Kind: api.Null})
	case "true":
		return constant(p.take().At, api.Value{Kind: api.True})
	case "false":
		return constant(p.take().At, api.Value{Kind: api.False})
	case "if":
		return p.choice()
	case "break":
		at := p.take().At
		return api.Node{Op: api.Break, At: at, Text: p.mustBe(word.Var).Text}
	}
	panic(p.fault())
}

// dot is a dot, with the text behind it, if one stands there.
func (p *parser) dot() api.Node {
	at := p.take().At
	if p.is(word.Text) || p.is(word.Begin) {
		return index(at, self(at), p.text())
	}
	return self(at)
}

// text is a text, with filters in it or without.
func (p *parser) text() api.Node {
	if p.is(word.Text) {
		return said(p.take())
	}
	if !p.is(word.Begin) {
		panic(p.fault())
	}
	piece := p.opening()
	out := api.Node{Op: api.Join, At: piece.At}
	for {
		out.Kids = append(out.Kids, said(piece), p.pipe())
		if !p.is(word.Mid) {
			break
		}
		piece = p.take()
	}
	out.Kids = append(out.Kids, said(p.mustBe(word.End)))
	p.open--
	return out
}

// group is what stands in brackets, which must be there.
func (p *parser) group() api.Node {
	p.enter("(")
	out := p.pipe()
	p.leave(")")
	return out
}

func (p *parser) list() api.Node {
	out := api.Node{Op: api.List, At: p.enter("[").At}
	if !p.says("]") {
		out.Kids = []api.Node{p.pipe()}
	}
	p.leave("]")
	return out
}

// choice is an If; one that "elif" begins is the last kid of the one ahead of it.
func (p *parser) choice() api.Node {
	at := p.enter("if").At
	waiting := []api.Node{p.branch(at)}
	for p.says("elif") {
		at = p.take().At
		waiting = append(waiting, p.branch(at))
	}
	last := self(p.here().At)
	if p.takes("else") {
		last = p.pipe()
	}
	p.leave("end")
	return within(waiting, last)
}

// branch is an If that waits for its else.
func (p *parser) branch(at int) api.Node {
	condition := p.pipe()
	p.must("then")
	then := p.pipe()
	return api.Node{Op: api.If, At: at, Kids: []api.Node{condition, then}}
}

func (p *parser) call() api.Node {
	name := p.take()
	out := api.Node{Op: api.Call, At: name.At, Text: name.Text}
	if p.says("(") {
		out.Kids = p.pipes(nil, 1, math.MaxInt)
	}
	return out
}

// pipes puts the pipes of a pair of brackets, so many at least and at most, behind kids that are there.
func (p *parser) pipes(kids []api.Node, least, most int) []api.Node {
	p.enter("(")
	kids = append(kids, p.pipe())
	for many := 1; many < most; many++ {
		if many >= least && !p.says(";") {
			break
		}
		p.must(";")
		kids = append(kids, p.pipe())
	}
	p.leave(")")
	return kids
}
