package specimen

import (
	"math"
	"slices"

	"hallmark/api"
)

// MisshapenFilters are filters that aren't well shaped at the top.
func MisshapenFilters() []api.Node {
	var out []api.Node
	for _, some := range misshapenSorts() {
		out = append(out, some()...)
	}
	return out
}

func misshapenSorts() []func() []api.Node {
	return []func() []api.Node{strangeOps, wrongCounts, wrongNames, wrongParameters, wrongConstants, strangeFields, wrongJoins, wrongNones}
}

// strangeOps are of no Op, with kids or without.
func strangeOps() []api.Node {
	var out []api.Node
	for _, op := range []int{api.None, -1, api.ElseTo + 1, 99, math.MaxInt, math.MinInt} {
		for many := range 5 {
			out = append(out, Part(op, slices.Repeat([]api.Node{Part(api.Self)}, many)...))
		}
		out = append(out, NamedPart(op, "f"), api.Node{Op: op, At: 1}, api.Node{Op: op, Value: Num("1")})
	}
	return out
}

// wrongCounts have a kid more than their Op may have, or fewer.
func wrongCounts() []api.Node {
	var out []api.Node
	for op := api.Self; op <= api.ElseTo; op++ {
		for many := range 8 {
			if !slices.Contains(KidCounts(op), many) {
				out = append(out, OfOp(op, slices.Repeat([]api.Node{Constant(Text("a"))}, many)...))
			}
		}
	}
	return out
}

// notNames are texts that are no names, or are the language's own words.
func notNames() []string {
	return []string{"", "if", "def", "null", "end", "break", "1", "1x", "a-b", "$x", "$", " a", "a ", "a.b", "é", "a\x00", "\xff", "*a", "a/1"}
}

// wrongNames have a text that is no name, or have one though their Op has none.
func wrongNames() []api.Node {
	var out []api.Node
	for _, n := range FilterForms() {
		if HasName(n.Op) {
			for _, s := range notNames() {
				n.Text = s
				out = append(out, n)
			}
			continue
		}
		for _, s := range []string{"f", "if", " "} {
			n.Text = s
			out = append(out, n)
		}
	}
	return out
}

// wrongParameters have names that are no parameters, or have some though they are no Def.
func wrongParameters() []api.Node {
	self := Part(api.Self)
	var out []api.Node
	for _, n := range FilterForms() {
		if n.Op != api.Def {
			for _, names := range [][]string{{"g"}, {"$g"}, {""}} {
				n.Names = names
				out = append(out, n)
			}
		}
	}
	for _, s := range append(notNames(), "$if", "$null", "$1", "$$x", "$ x", "$a-b", "x$", "$é") {
		if s != "$x" {
			for _, names := range [][]string{{s}, {s, "g"}, {"g", s}, {"$g", s, "x"}} {
				out = append(out, Definition("f", names, self, self))
			}
		}
	}
	return out
}

// wrongConstants have a value that no text of a filter says.
func wrongConstants() []api.Node {
	var out []api.Node
	for _, v := range append(Misshapen(), List(), Object(nil), List(Num("1")), Object([]string{"a"}, Num("1"))) {
		out = append(out, Constant(v))
	}
	for _, s := range Numbers() {
		if s[0] == '-' {
			out = append(out, Constant(Num(s)))
		}
	}
	return out
}

// strangeFields have a value though they are no Const.
func strangeFields() []api.Node {
	var out []api.Node
	for _, n := range FilterForms() {
		if n.Op != api.Const {
			for _, v := range append(Filled(api.Value{}), Kind(api.True), Kind(-1), Num("1"), Text("a"), List(), Object(nil)) {
				n.Value = v
				out = append(out, n)
			}
		}
	}
	return out
}

// wrongJoins have something else than a Const text at an even place.
func wrongJoins() []api.Node {
	var out []api.Node
	a := Constant(Text("a"))
	for _, many := range KidCounts(api.Join) {
		for at := 0; at < many; at += 2 {
			others := []api.Node{Part(api.Self), Constant(Num("1")), Constant(api.Value{}), Constant(Kind(api.True)), Constant(Text("\xff")), Part(api.Join, a, a, a), NamedPart(api.Var, "x"), {Op: api.Self, Value: Text("a")}, {Op: api.Const, Value: Text("a"), Text: "f"}, {}}
			for _, other := range others {
				kids := slices.Repeat([]api.Node{a}, many)
				kids[at] = other
				out = append(out, Part(api.Join, kids...))
			}
		}
	}
	return out
}

// wrongNones have None where a part must be, or a part of the Op None that has something.
func wrongNones() []api.Node {
	self, none := Part(api.Self), api.Node{}
	var out []api.Node
	for _, form := range FilterForms() {
		for at := range form.Kids {
			if form.Op != api.Slice || at == 0 {
				out = append(out, withKid(form, at, none))
			}
		}
	}
	out = append(out, Part(api.Slice, self, none, none), Part(api.Slice, none, none, none), Part(api.Slice, none, self, none), Part(api.Slice, none, none, self))
	for _, n := range []api.Node{{Text: "f"}, {Names: []string{"g"}}, {Kids: []api.Node{{}}}, {Kids: []api.Node{self}}, {Value: Num("1")}, {Value: api.Value{Num: "1"}}, {Value: api.Value{Items: []api.Value{{}}}}, {Op: -1}} {
		out = append(out, Part(api.Slice, self, n, self), Part(api.Slice, self, self, n), Part(api.Slice, self, n, none), Part(api.Slice, self, none, n))
	}
	return out
}

func isNone(n api.Node) bool { return AlikeFilters(n, api.Node{}) }

// withKid is a part with another kid at a place.
func withKid(n api.Node, at int, kid api.Node) api.Node {
	n.Kids = slices.Clone(n.Kids)
	n.Kids[at] = kid
	return n
}

// AroundFilter are filters that are well shaped but for this one inside them, which is no None.
func AroundFilter(n api.Node) []api.Node {
	a, deep := Constant(Text("a")), n
	for range 100 {
		deep = Part(api.Join, a, Part(api.Pipe, Part(api.Neg, deep), Part(api.Self)), a)
	}
	out := []api.Node{deep}
	for _, form := range FilterForms() {
		for at, kid := range form.Kids {
			if kid.Op != api.None && (form.Op != api.Join || at%2 == 1) {
				out = append(out, withKid(form, at, n))
			}
		}
	}
	return out
}

// SpoiltFilter is a filter with a part of it changed for a misshapen one.
func SpoiltFilter(n api.Node, pick Source) api.Node {
	if len(n.Kids) == 0 || pick(3) == 0 {
		sorts := misshapenSorts()
		all := slices.DeleteFunc(sorts[pick(len(sorts))](), isNone) // where a None is put it may stand
		return all[pick(len(all))]
	}
	at := pick(len(n.Kids))
	return withKid(n, at, SpoiltFilter(n.Kids[at], pick))
}

// NudgedFilters are filters that differ from one in one field of one part each, but for At; they are in memory of their own only where they differ.
func NudgedFilters(n api.Node) []api.Node {
	out := nudgedPart(n)
	for i, kid := range n.Kids {
		for _, other := range NudgedFilters(kid) {
			out = append(out, withKid(n, i, other))
		}
	}
	return out
}

// nudgedPart are those that differ at the top.
func nudgedPart(n api.Node) []api.Node {
	changes := []func(n *api.Node){
		func(n *api.Node) { n.Op++ },
		func(n *api.Node) { n.Op = -n.Op - 1 },
		func(n *api.Node) { n.Text += "x" },
		func(n *api.Node) { n.Text += "\x00" },
		func(n *api.Node) { n.Value.Kind++ },
		func(n *api.Node) { n.Value.Num += "0" },
		func(n *api.Node) { n.Value.Text += "x" },
		func(n *api.Node) { n.Value.Items = append(slices.Clone(n.Value.Items), api.Value{}) },
		func(n *api.Node) { n.Value.Keys = append(slices.Clone(n.Value.Keys), "") },
		func(n *api.Node) { n.Value.Keys = append(slices.Clone(n.Value.Keys), "a") },
		func(n *api.Node) { n.Value.Items = append(slices.Clone(n.Value.Items), List(Num("1"))) },
		func(n *api.Node) { n.Names = append(slices.Clone(n.Names), "") },
		func(n *api.Node) { n.Names = append([]string{"g"}, n.Names...) },
		func(n *api.Node) { n.Kids = append(slices.Clone(n.Kids), api.Node{}) },
		func(n *api.Node) { n.Kids = append([]api.Node{Part(api.Self)}, n.Kids...) },
	}
	var out []api.Node
	for _, change := range changes {
		other := n
		change(&other)
		out = append(out, other)
	}
	if len(n.Kids) > 0 {
		other := n
		other.Kids = n.Kids[:len(n.Kids)-1]
		out = append(out, other)
	}
	if len(n.Names) > 0 {
		other := n
		other.Names = n.Names[1:]
		out = append(out, other)
	}
	return out
}

// OpenFilters are filters that aren't well shaped, or well shaped but not closed, by what is wrong with them.
func OpenFilters() map[string]api.Node {
	self := Part(api.Self)
	return map[string]api.Node{
		"not well shaped": Part(api.Pipe, self),
		"no Op":           {Op: 77},
		"a free function": NamedPart(api.Call, "f"),
		"a free variable": NamedPart(api.Var, "x"),
		"a free label":    NamedPart(api.Break, "x"),
		"a taken name":    Definition("path", []string{"f"}, self, self),
	}
}

// WrongFuels are no fuels.
func WrongFuels() []int {
	return []int{-1, -2, math.MinInt, api.MaxFuel + 1, api.MaxFuel + 2, 1 << 32, math.MaxInt}
}
