package place

import (
	"strings"

	"hallmark/api"
)

// fresh are the names that a filter's changes bind.
type fresh struct{ p, x string }

// freshOf are the first two of _, __, ___ .. that stand nowhere in a filter, be it as names of another sort.
func freshOf(n *api.Node) fresh {
	taken, name := map[string]bool{}, ""
	take(n, taken)
	next := func() string {
		name += "_"
		for taken[name] {
			name += "_"
		}
		return name
	}
	p := next()
	return fresh{p, next()}
}

// take notes the names in a filter, those of parameters without their $.
func take(n *api.Node, taken map[string]bool) {
	taken[n.Text] = true
	for _, entry := range n.Names {
		taken[strings.TrimPrefix(entry, "$")] = true
	}
	for i := range n.Kids {
		take(&n.Kids[i], taken)
	}
}
