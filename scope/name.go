package scope

import (
	"strconv"
	"strings"

	"hallmark/api"
)

// The sorts of names.
const (
	functions = iota
	variables
	labels
)

// name is one of any sort: names of two sorts, or functions with other numbers of arguments, are never the same.
type name struct {
	sort      int
	text      string
	arguments int // of functions alone
}

func function(text string, arguments int) name {
	return name{sort: functions, text: text, arguments: arguments}
}

func variable(text string) name { return name{sort: variables, text: text} }

func label(text string) name { return name{sort: labels, text: text} }

// asked is the name that a part asks for, if it asks for one.
func asked(n *api.Node) (name, bool) {
	switch n.Op {
	case api.Call:
		return function(n.Text, len(n.Kids)), true
	case api.Var:
		return variable(n.Text), true
	case api.Break:
		return label(n.Text), true
	}
	return name{}, false
}

// defined is the function that a Def defines.
func defined(n *api.Node) name { return function(n.Text, len(n.Names)) }

// added is the names that a kid of a part sees, besides those that the part sees.
func added(n *api.Node, kid int) []name {
	switch n.Op {
	case api.Def:
		if kid == 0 {
			return append(parameters(n.Names), defined(n))
		}
		return []name{defined(n)}
	case api.Bind:
		if kid == 1 {
			return []name{variable(n.Text)}
		}
	case api.Reduce, api.Foreach:
		if kid >= 2 {
			return []name{variable(n.Text)}
		}
	case api.Label:
		return []name{label(n.Text)}
	}
	return nil
}

// parameters is the names that a Def's body sees by its Names.
func parameters(entries []string) []name {
	var out []name
	for _, entry := range entries {
		text, isVariable := strings.CutPrefix(entry, "$")
		out = append(out, function(text, 0))
		if isVariable {
			out = append(out, variable(text))
		}
	}
	return out
}

// written is a name as Free tells it.
func (x name) written() string {
	switch x.sort {
	case variables:
		return "$" + x.text
	case labels:
		return "*" + x.text
	}
	return x.text + "/" + strconv.Itoa(x.arguments)
}
