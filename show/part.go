package show

import (
	"hallmark/api"
	"hallmark/utf"
	"hallmark/word"
)

func (p *pen) self(*api.Node) { p.put(".") }

func (p *pen) constant(n *api.Node) {
	switch n.Value.Kind {
	case api.Null:
		p.put("null")
	case api.False:
		p.put("false")
	case api.True:
		p.put("true")
	case api.Number:
		p.put(n.Value.Num)
	default:
		p.put(utf.Quote(n.Value.Text))
	}
}

// join writes a text with filters in it: its pieces stand at even places.
func (p *pen) join(n *api.Node) {
	p.put(`"`)
	for i := range n.Kids {
		if i%2 == 0 {
			literal := utf.Quote(n.Kids[i].Value.Text)
			p.put(literal[1 : len(literal)-1])
			continue
		}
		p.put(`\(`)
		p.tell(&n.Kids[i])
		p.put(")")
	}
	p.put(`"`)
}

func (p *pen) list(n *api.Node) {
	p.put("[")
	p.row(n.Kids)
	p.put("]")
}

// row writes filters with semicolons between them.
func (p *pen) row(filters []api.Node) {
	for i := range filters {
		if i > 0 {
			p.put("; ")
		}
		p.tell(&filters[i])
	}
}

func (p *pen) record(n *api.Node) {
	p.put("{")
	for i := 0; i < len(n.Kids); i += 2 {
		if i > 0 {
			p.put(", ")
		}
		p.key(&n.Kids[i])
		p.put(": ")
		p.held(3)(&n.Kids[i+1])
	}
	p.put("}")
}

// key writes an entry's key.
func (p *pen) key(n *api.Node) {
	switch {
	case isText(n):
		key, _ := Key(n.Value.Text)
		p.put(key)
	case n.Op == api.Join:
		p.tell(n)
	default:
		p.held(always)(n)
	}
}

func isText(n *api.Node) bool { return n.Op == api.Const && n.Value.Kind == api.Text }

func (p *pen) variable(n *api.Node) {
	if n.Op == api.Break {
		p.put("break ")
	}
	p.put("$", n.Text)
}

// base writes what a suffix stands behind.
func (p *pen) base(n *api.Node) {
	k := 10
	if n.Op == api.Const && n.Value.Kind == api.Number { // a dot behind it would be read as one of its own
		k = always
	}
	p.held(k)(n)
}

func (p *pen) index(n *api.Node) {
	of, key := &n.Kids[0], &n.Kids[1]
	p.base(of)
	if !isText(key) || !word.Named(key.Value.Text) {
		p.put("[")
		p.tell(key)
		p.put("]")
		return
	}
	if of.Op != api.Self { // its own dot is the field's
		p.put(".")
	}
	p.put(key.Value.Text)
}

func (p *pen) slice(n *api.Node) {
	p.base(&n.Kids[0])
	p.put("[")
	p.end(&n.Kids[1])
	p.put(":")
	p.end(&n.Kids[2])
	p.put("]")
}

// end writes an end of a Slice, which may be missing.
func (p *pen) end(n *api.Node) {
	if n.Op != api.None {
		p.tell(n)
	}
}

func (p *pen) each(n *api.Node) {
	p.base(&n.Kids[0])
	p.put("[]")
}

func (p *pen) try(n *api.Node) {
	if len(n.Kids) == 1 {
		p.base(&n.Kids[0])
		p.put("?")
		return
	}
	p.put("try ")
	p.held(10)(&n.Kids[0])
	p.put(" catch ")
	p.held(10)(&n.Kids[1])
}
