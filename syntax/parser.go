package syntax

import (
	"hallmark/api"
	"hallmark/word"
)

// parser reads a filter from the row of words that it goes along. Its calls are nested as far as what is open in the text and no further: parts that go on without end wait in lists.
type parser struct {
	row
	open int // how many things are open
}

// whole is the filter that all words make.
func (p *parser) whole() api.Node {
	n := p.pipe()
	if p.taken < len(p.words) {
		panic(p.fault())
	}
	return n
}

// enter takes the next word, which must be this one: it opens something.
func (p *parser) enter(text string) api.Token {
	if !p.says(text) {
		panic(p.fault())
	}
	return p.opening()
}

// opening takes the next word, which opens something.
func (p *parser) opening() api.Token {
	if p.open == api.MaxNest {
		panic(fault{api.ErrNest, p.here().At})
	}
	p.open++
	return p.take()
}

// leave takes the next word, which must be the one that closes what was opened last.
func (p *parser) leave(text string) {
	p.must(text)
	p.open--
}

// within is a part within others that wait for their last kid: it is that of the last one, this one that of the one ahead, and so on.
func within(waiting []api.Node, part api.Node) api.Node {
	for i := len(waiting) - 1; i >= 0; i-- {
		outer := waiting[i]
		outer.Kids = append(outer.Kids, part)
		part = outer
	}
	return part
}

func (p *parser) pipe() api.Node {
	var waiting []api.Node
	for {
		link, waits := p.link()
		if !waits {
			return within(waiting, link)
		}
		waiting = append(waiting, link)
	}
}

// link is what stands in a pipe up to where another pipe must begin, and whether one must: then it waits for that.
func (p *parser) link() (api.Node, bool) {
	switch {
	case p.says("def"):
		return p.definition(), true
	case p.says("label"):
		return p.label(), true
	}
	signed := p.says("-")
	first := p.unary()
	if !signed && p.says("as") {
		return p.binding(first), true
	}
	left := p.behind(first, bindsBoth)
	if !p.says("|") {
		return left, false
	}
	return api.Node{Op: api.Pipe, At: p.take().At, Kids: []api.Node{left}}, true
}

// definition is a Def that waits for its rest.
func (p *parser) definition() api.Node {
	at := p.enter("def").At
	name := p.mustBe(word.Name).Text
	names := p.parameters()
	p.must(":")
	body := p.pipe()
	p.leave(";")
	return api.Node{Op: api.Def, At: at, Text: name, Names: names, Kids: []api.Node{body}}
}

// parameters are a definition's, if there are brackets.
func (p *parser) parameters() []string {
	if !p.says("(") {
		return nil
	}
	p.enter("(")
	names := []string{p.parameter()}
	for p.takes(";") {
		names = append(names, p.parameter())
	}
	p.leave(")")
	return names
}

func (p *parser) parameter() string {
	if p.is(word.Var) {
		return "$" + p.take().Text
	}
	return p.mustBe(word.Name).Text
}

// label is a Label that waits for its body.
func (p *parser) label() api.Node {
	at := p.take().At
	name := p.mustBe(word.Var).Text
	p.must("|")
	return api.Node{Op: api.Label, At: at, Text: name}
}

// binding is a Bind that waits for its body.
func (p *parser) binding(source api.Node) api.Node {
	at := p.take().At
	name := p.mustBe(word.Var).Text
	p.must("|")
	return api.Node{Op: api.Bind, At: at, Text: name, Kids: []api.Node{source}}
}
