package eval_test

import (
	"testing"

	"hallmark/api"
	"hallmark/prim"
	"hallmark/specimen"
)

// probes are what stands in the place of kids: parts that give nothing, one output and several, that fail and break, at once and behind an output.
func probes(t *testing.T) []api.Node {
	var out []api.Node
	for _, s := range []string{"empty", ".", "0, .", `"a"`, "(true, null)", `error("x")`, `1, error("y")`, "2, break $l, 3", ".[]", ".a, .a"} {
		out = append(out, probe(t, s))
	}
	return out
}

// probe is a filter of a text within a label l.
func probe(t *testing.T, s string) api.Node {
	t.Helper()
	return parsed(t, "label $l | "+s).Kids[0]
}

// within is a part within a label l, and something behind that.
func within(n api.Node) api.Node {
	return specimen.Part(api.Both, specimen.NamedPart(api.Label, "l", n), specimen.Constant(specimen.Text("behind")))
}

// eachWay goes through all lists of so many of these.
func eachWay(many int, of []api.Node, do func(l []api.Node)) {
	if many == 0 {
		do(nil)
		return
	}
	eachWay(many-1, of, func(l []api.Node) {
		for _, n := range of {
			do(append(append([]api.Node(nil), l...), n))
		}
	})
}

// ofKids is a part of an Op with kids that fit it, and a name.
func ofKids(op int, kids []api.Node) api.Node {
	n := specimen.Part(op, kids...)
	switch op {
	case api.Join:
		n.Kids = []api.Node{specimen.Constant(specimen.Text("p"))}
		for i, kid := range kids {
			n.Kids = append(n.Kids, kid, specimen.Constant(specimen.Text([]string{"", "q"}[i%2])))
		}
	case api.Def:
		n.Text, n.Names = "f", []string{"$x", "g"}
	case api.Bind, api.Reduce, api.Foreach, api.Label:
		n.Text = "x"
	}
	return n
}

// Each Op with each probe as each of its kids, at the input that some probes fit, with each fuel that may tell something.
func TestP23_3EachKid(t *testing.T) {
	all := probes(t)
	inputs := []api.Value{specimen.JSON(`[0,{"a":1}]`), specimen.JSON(`{"a":[1]}`)}
	for op := api.Self; op < api.Put; op++ {
		counts := specimen.KidCounts(op)
		switch op {
		case api.Const, api.Var, api.Call, api.Break:
			continue // these are held to rows of their own
		case api.Join:
			counts = []int{1, 2}
		case api.Record:
			counts = []int{0, 2, 4}
		}
		for _, many := range counts {
			of := all
			if many > 2 {
				of = []api.Node{all[0], all[2], all[3], all[6], all[7]}
			}
			if many > 3 {
				of = []api.Node{all[0], all[2], all[3], all[7]}
			}
			eachWay(many, of, func(kids []api.Node) {
				for _, v := range inputs {
					checkWords(t, within(ofKids(op, kids)), v, 400)
				}
			})
		}
	}
}

// A Slice with None in each place.
func TestP23_3EachNone(t *testing.T) {
	all := probes(t)
	eachWay(2, all, func(kids []api.Node) {
		for _, n := range []api.Node{specimen.Part(api.Slice, kids[0], api.Node{}, kids[1]), specimen.Part(api.Slice, kids[0], kids[1], api.Node{})} {
			for _, v := range []api.Value{{}, specimen.JSON(`[0,"a",2]`), specimen.JSON(`"añc"`)} {
				checkWords(t, within(n), v, 400)
			}
		}
	})
}

// Each function that is built in, with each probe as each argument, and with what fits it.
func TestP23_3EachBuiltIn(t *testing.T) {
	all := probes(t)
	few := []api.Node{all[0], all[2], all[6], all[7]}
	for _, s := range []string{`["a"], ["b"]`, "[[0]], []", "0, 2"} {
		few = append(few, probe(t, s))
	}
	inputs := []string{"null", "true", "-3", `"a1"`, `["b","a"]`, `[[1],[2,[3]]]`, `{"a":1}`, "[97]"}
	for _, written := range append(prim.Names(), "empty/0", "error/0", "error/1", "range/2", "path/1") {
		name, many := specimen.Function(written)
		eachWay(many, few, func(kids []api.Node) {
			for _, in := range inputs {
				checkWords(t, within(specimen.NamedPart(api.Call, name, kids...)), specimen.JSON(in), 300)
			}
		})
	}
}
