package eval

import (
	"strings"

	"hallmark/api"
)

// The sorts of names.
const (
	functions = iota
	variables
	labels
)

// name is one of any sort, of a function with the number of its arguments.
type name struct {
	sort int
	text string
	many int
}

func function(text string, many int) name { return name{functions, text, many} }

func variable(text string) name { return name{sort: variables, text: text} }

func label(text string) name { return name{sort: labels, text: text} }

// askedBy is the name that a part asks for, if it asks for one.
func askedBy(n *api.Node) (name, bool) {
	switch n.Op {
	case api.Call:
		return function(n.Text, len(n.Kids)), true
	case api.Var:
		return variable(n.Text), true
	case api.Break:
		return label(n.Text), true
	}
	return name{}, false
}

// bound is a name with what it stands for.
type bound struct {
	name
	stand
}

// added are the names that a kid of a part sees besides those that the part sees, and how many frames they stand in.
func (b *binder) added(n *api.Node, kid int) (names []bound, frames int) {
	next := b.level + 1
	switch {
	case n.Op == api.Bind && kid == 1, (n.Op == api.Reduce || n.Op == api.Foreach) && kid >= 2:
		return []bound{{variable(n.Text), stand{alone((*visit).variable), next, 0}}}, 1
	case n.Op == api.Label:
		return []bound{{label(n.Text), stand{alike((*visit).leave), next, 0}}}, 1
	case n.Op == api.Def:
		names = []bound{{function(n.Text, len(n.Names)), stand{alike((*visit).definition), next, 0}}}
		if kid == 1 {
			return names, 1
		}
		return parameters(names, n.Names, next+1)
	}
	return nil, 0
}

// parameters are the names that a Def's body sees besides, behind that of the definition itself. Those without $ stand in the frame of the call, which is of this level; each of those with $ in one of its own, further in.
func parameters(names []bound, entries []string, level int) ([]bound, int) {
	inner := level
	for i, entry := range entries {
		text, hasValue := strings.CutPrefix(entry, "$")
		if !hasValue {
			names = append(names, bound{function(text, 0), stand{alike((*visit).parameter), level, i}})
			continue
		}
		inner++
		names = append(names, bound{function(text, 0), stand{alike((*visit).valueOfParameter), inner, 0}})
		names = append(names, bound{variable(text), stand{alone((*visit).variable), inner, 0}})
	}
	return names, inner - level + 2
}

// valued are the places of the parameters with $.
func valued(entries []string) []int {
	var out []int
	for i, entry := range entries {
		if strings.HasPrefix(entry, "$") {
			out = append(out, i)
		}
	}
	return out
}
