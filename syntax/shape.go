package syntax

import (
	"slices"
	"strings"

	"hallmark/api"
	"hallmark/tens"
	"hallmark/value"
	"hallmark/word"
)

// formed says whether a part, and all that stands in it, is well shaped.
func formed(n *api.Node) bool {
	return kidsFit(n) && textFits(n) && valueFits(n) && namesFit(n)
}

// kidsFit says whether a part has as many kids as its Op has, each well shaped and of a kind that may stand there.
func kidsFit(n *api.Node) bool {
	if !manyFit(n.Op, len(n.Kids)) {
		return false
	}
	for i := range n.Kids {
		if !kidFits(n, i) {
			return false
		}
	}
	return true
}

// manyFit says whether there is such an Op, and it may have so many kids.
func manyFit(op, many int) bool {
	switch op {
	case api.Self, api.Const, api.Var, api.Break:
		return many == 0
	case api.Join:
		return many >= 3 && many%2 == 1
	case api.List:
		return many <= 1
	case api.Record:
		return many%2 == 0
	case api.Each, api.Neg, api.Label:
		return many == 1
	case api.Try:
		return many == 1 || many == 2
	case api.Slice, api.If, api.Reduce:
		return many == 3
	case api.Foreach:
		return many == 3 || many == 4
	case api.Call:
		return true
	case api.Index, api.Bind, api.Def:
		return many == 2
	}
	return many == 2 && (api.Pipe <= op && op <= api.Else || api.Put <= op && op <= api.ElseTo)
}

// kidFits says whether a kid is well shaped and may stand where it stands.
func kidFits(n *api.Node, at int) bool {
	kid := &n.Kids[at]
	switch {
	case n.Op == api.Slice && at > 0 && isNone(kid):
		return !isNone(&n.Kids[3-at]) // the other end
	case n.Op == api.Join && at%2 == 0:
		return kid.Op == api.Const && kid.Value.Kind == api.Text && formed(kid)
	}
	return formed(kid)
}

// isNone says whether it is no part.
func isNone(n *api.Node) bool {
	return n.Op == api.None && n.Text == "" && isZero(&n.Value) && len(n.Names) == 0 && len(n.Kids) == 0
}

func isZero(v *api.Value) bool { return alike(v, &api.Value{}) }

// textFits says whether a part has a name, if its Op has one, and no text else.
func textFits(n *api.Node) bool {
	switch n.Op {
	case api.Var, api.Break, api.Bind, api.Reduce, api.Foreach, api.Def, api.Call, api.Label:
		return word.Plain(n.Text)
	}
	return n.Text == ""
}

// valueFits says whether a part has a value that a text of a filter can say, if it is a Const, and none else.
func valueFits(n *api.Node) bool {
	if n.Op != api.Const {
		return isZero(&n.Value)
	}
	switch v := n.Value; v.Kind {
	case api.Null, api.False, api.True, api.Text:
		return value.Formed(v)
	case api.Number:
		sign, _ := tens.Cmp(v.Num, "0")
		return value.Formed(v) && sign >= 0
	}
	return false
}

// namesFit says whether a part has parameters, if it is a Def, and no names else.
func namesFit(n *api.Node) bool {
	if n.Op != api.Def {
		return len(n.Names) == 0
	}
	for _, name := range n.Names {
		if !word.Plain(strings.TrimPrefix(name, "$")) {
			return false
		}
	}
	return true
}

func depth(n *api.Node) int {
	deepest := 0
	for i := range n.Kids {
		deepest = max(deepest, depth(&n.Kids[i]))
	}
	return 1 + deepest
}

func same(a, b *api.Node) bool {
	if a.Op != b.Op || a.Text != b.Text || !alike(&a.Value, &b.Value) || !slices.Equal(a.Names, b.Names) || len(a.Kids) != len(b.Kids) {
		return false
	}
	for i := range a.Kids {
		if !same(&a.Kids[i], &b.Kids[i]) {
			return false
		}
	}
	return true
}

// alike says whether two values are so field by field: they need not be well shaped.
func alike(a, b *api.Value) bool {
	if a.Kind != b.Kind || a.Num != b.Num || a.Text != b.Text || !slices.Equal(a.Keys, b.Keys) || len(a.Items) != len(b.Items) {
		return false
	}
	for i := range a.Items {
		if !alike(&a.Items[i], &b.Items[i]) {
			return false
		}
	}
	return true
}
