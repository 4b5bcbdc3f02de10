package library

import (
	"slices"
	"strconv"

	"hallmark/api"
	"hallmark/scope"
	"hallmark/syntax"
)

// definition is a line of the library's text.
type definition struct {
	name  string
	part  api.Node // its Def, whose rest says nothing
	calls []string // the names that it calls freely
}

// definitions are those of the library's text.
func definitions() []definition {
	n, _, _ := syntax.Parse(text + ".") // definitions alone are no filter's text
	var out []definition
	for n.Op == api.Def {
		out = append(out, defined(n))
		n = n.Kids[1]
	}
	return out
}

// defined is the definition that a Def makes, whatever its rest is.
func defined(n api.Node) definition {
	n.Kids = []api.Node{n.Kids[0], {Op: api.Self}}
	unplace(&n)
	calls, _ := scope.Free(n)
	return definition{name: n.Text + "/" + strconv.Itoa(len(n.Names)), part: n, calls: calls}
}

// unplace takes the places out of a filter: those in the library's text would be read as places in the text of the filter behind it.
func unplace(n *api.Node) {
	n.At = -1
	for i := range n.Kids {
		unplace(&n.Kids[i])
	}
}

// before is a definition's Def with this rest.
func (d definition) before(rest api.Node) api.Node {
	out := twin(&d.part)
	out.Kids[1] = rest
	return out
}

// twin is a well shaped filter once more, in memory of its own.
func twin(n *api.Node) api.Node {
	out := *n
	out.Value.Items, out.Value.Keys = nil, nil // empty they are, but there may be room behind them
	out.Names = append([]string(nil), n.Names...)
	out.Kids = slices.Grow([]api.Node(nil), len(n.Kids))
	for i := range n.Kids {
		out.Kids = append(out.Kids, twin(&n.Kids[i]))
	}
	return out
}
