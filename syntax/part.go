package syntax

import "hallmark/api"

func self(at int) api.Node { return api.Node{Op: api.Self, At: at} }

func constant(at int, v api.Value) api.Node {
	return api.Node{Op: api.Const, At: at, Value: v}
}

// said is the text that a word says.
func said(x api.Token) api.Node {
	return constant(x.At, api.Value{Kind: api.Text, Text: x.Text})
}

func index(at int, of, key api.Node) api.Node {
	return api.Node{Op: api.Index, At: at, Kids: []api.Node{of, key}}
}

// field is the field of the input that a word says.
func field(x api.Token) api.Node { return index(x.At, self(x.At), said(x)) }

func variable(x api.Token) api.Node {
	return api.Node{Op: api.Var, At: x.At, Text: x.Text}
}
