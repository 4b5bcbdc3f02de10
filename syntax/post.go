package syntax

import (
	"hallmark/api"
	"hallmark/word"
)

// post is a term and its suffixes. Terms with a post of their own in them, which is then read first, wait for it.
func (p *parser) post() api.Node {
	var waiting []api.Node
further:
	for {
		for p.awaitsPost() {
			waiting = append(waiting, p.awaiting())
		}
		out := p.suffixed(p.term())
		for last := len(waiting) - 1; last >= 0; last-- {
			outer := waiting[last]
			outer.Kids = append(outer.Kids, out)
			if outer.Op == api.Try && len(outer.Kids) == 1 && p.takes("catch") {
				waiting = append(waiting[:last], outer)
				continue further
			}
			out = p.suffixed(p.finished(outer))
		}
		return out
	}
}

// awaitsPost says whether the next word begins a term in which a post stands right behind it.
func (p *parser) awaitsPost() bool { return p.says("try") || p.says("reduce") || p.says("foreach") }

// awaiting is the part that such a word begins.
func (p *parser) awaiting() api.Node {
	first := p.take()
	out := api.Node{Op: api.Try, At: first.At}
	switch first.Text {
	case "reduce":
		out.Op = api.Reduce
	case "foreach":
		out.Op = api.Foreach
	}
	return out
}

// finished is such a part with what stands behind its last post.
func (p *parser) finished(part api.Node) api.Node {
	switch part.Op {
	case api.Reduce:
		return p.loop(part, 2)
	case api.Foreach:
		return p.loop(part, 3)
	}
	return part
}

// loop is a Reduce or Foreach with all that stands behind its source: two pipes in its brackets, or more, up to so many.
func (p *parser) loop(part api.Node, most int) api.Node {
	p.must("as")
	part.Text = p.mustBe(word.Var).Text
	part.Kids = p.pipes(part.Kids, 2, most)
	return part
}

// suffixed is what the suffixes that stand here make of a part.
func (p *parser) suffixed(part api.Node) api.Node {
	for {
		switch {
		case p.is(word.Field):
			name := p.take()
			part = index(name.At, part, said(name))
		case p.says("."):
			at := p.take().At
			part = index(at, part, p.text())
		case p.says("["):
			part = p.bracket(part)
		case p.says("?"):
			part = api.Node{Op: api.Try, At: p.take().At, Kids: []api.Node{part}}
		default:
			return part
		}
	}
}

// bracket is what a suffix in brackets makes of a part.
func (p *parser) bracket(of api.Node) api.Node {
	at := p.enter("[").At
	if p.says("]") {
		p.leave("]")
		return api.Node{Op: api.Each, At: at, Kids: []api.Node{of}}
	}
	var from, to api.Node // None, where nothing stands
	if p.takes(":") {
		to = p.pipe()
	} else {
		from = p.pipe()
		if p.says("]") {
			p.leave("]")
			return index(at, of, from)
		}
		p.must(":")
		if !p.says("]") {
			to = p.pipe()
		}
	}
	p.leave("]")
	return api.Node{Op: api.Slice, At: at, Kids: []api.Node{of, from, to}}
}
