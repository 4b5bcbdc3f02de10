package specimen

import (
	"slices"
	"strconv"
	"strings"

	"hallmark/api"
)

// Part is a part of a filter that has nothing but kids.
func Part(op int, kids ...api.Node) api.Node { return api.Node{Op: op, Kids: kids} }

// NamedPart is one with a name.
func NamedPart(op int, name string, kids ...api.Node) api.Node {
	return api.Node{Op: op, Text: name, Kids: kids}
}

// Constant is a Const.
func Constant(v api.Value) api.Node { return api.Node{Op: api.Const, Value: v} }

// Definition is a Def.
func Definition(name string, names []string, body, rest api.Node) api.Node {
	return api.Node{Op: api.Def, Text: name, Names: names, Kids: []api.Node{body, rest}}
}

// PlacedFilter is a filter with one place everywhere.
func PlacedFilter(n api.Node, at int) api.Node {
	n.At = at
	n.Kids = slices.Clone(n.Kids)
	for i, kid := range n.Kids {
		n.Kids[i] = PlacedFilter(kid, at)
	}
	return n
}

// Function is the name and the number of arguments of a function, of how chapter 19 writes it.
func Function(written string) (string, int) {
	name, digits, _ := strings.Cut(written, "/")
	arity, err := strconv.Atoi(digits)
	if err != nil {
		panic("no function: " + written)
	}
	return name, arity
}

// opNames are what the Ops are called, by their numbers.
func opNames() []string {
	return strings.Fields("none self const join list record var index slice each try neg pipe both add sub mul div mod eq ne lt le gt ge and or else if bind reduce foreach def call label break put update addto subto multo divto modto elseto")
}

// HasName says whether parts of an Op have a name.
func HasName(op int) bool {
	return slices.Contains([]int{api.Var, api.Break, api.Bind, api.Reduce, api.Foreach, api.Def, api.Call, api.Label}, op)
}

// KidCounts are how many kids parts of an Op may have, up to 7.
func KidCounts(op int) []int {
	switch op {
	case api.Self, api.Const, api.Var, api.Break:
		return []int{0}
	case api.List:
		return []int{0, 1}
	case api.Each, api.Neg, api.Label:
		return []int{1}
	case api.Try:
		return []int{1, 2}
	case api.Slice, api.If, api.Reduce:
		return []int{3}
	case api.Foreach:
		return []int{3, 4}
	case api.Join:
		return []int{3, 5, 7}
	case api.Record:
		return []int{0, 2, 4, 6}
	case api.Call:
		return []int{0, 1, 2, 3, 4, 5, 6, 7}
	}
	return []int{2}
}

// FilterNames are names that filters may have.
func FilterNames() []string {
	return []string{"a", "f", "x", "_", "map", "x1", "Z_9", "iff", "recurse"}
}

// OfOp is a part of an Op with these kids, and what such a part has besides; of Join those at even places should be Const texts.
func OfOp(op int, kids ...api.Node) api.Node {
	n := Part(op, kids...)
	if HasName(op) {
		n.Text = "f"
	}
	if op == api.Def {
		n.Names = []string{"g", "$x"}
	}
	return n
}

// FilterForms are well shaped parts of all Ops, with as many kids as there may be, up to 7.
func FilterForms() []api.Node {
	var out []api.Node
	for op := api.Self; op <= api.ElseTo; op++ {
		for _, many := range KidCounts(op) {
			var kids []api.Node
			for i := range many {
				kids = append(kids, Constant(Text(strconv.Itoa(i))))
			}
			out = append(out, OfOp(op, kids...))
		}
	}
	none, self := api.Node{}, Part(api.Self)
	out = append(out, Part(api.Slice, self, none, self), Part(api.Slice, self, self, none))
	for _, v := range saidValues() {
		out = append(out, Constant(v))
	}
	for _, names := range [][]string{nil, {}, {"g"}, {"$g"}, {"g", "g"}, {"a", "$a", "b", "$b"}} {
		out = append(out, Definition("f", names, self, self))
	}
	return out
}

// saidValues are values that a filter's text can say.
func saidValues() []api.Value {
	out := []api.Value{Kind(api.Null), Kind(api.False), Kind(api.True)}
	for _, s := range Numbers() {
		if s[0] != '-' {
			out = append(out, Num(s))
		}
	}
	for _, s := range Names() {
		out = append(out, Text(s))
	}
	return out
}

// DrawnFilter is a well shaped filter, with at most so many parts around one another, and any places.
func DrawnFilter(pick Source, deep int) api.Node {
	op := 1 + pick(api.ElseTo)
	counts := KidCounts(op)
	many := counts[pick(min(len(counts), 4))]
	if deep <= 1 {
		kidless := []int{api.Self, api.Const, api.Var, api.Call, api.Break, api.List, api.Record}
		op, many = kidless[pick(len(kidless))], 0
	}
	n := api.Node{Op: op, At: pick(2000) - 1000}
	for range many {
		n.Kids = append(n.Kids, DrawnFilter(pick, deep-1))
	}
	return drawnInside(n, pick)
}

// drawnInside is a part with what its Op has besides kids.
func drawnInside(n api.Node, pick Source) api.Node {
	if HasName(n.Op) {
		n.Text = one(pick, FilterNames())
	}
	switch n.Op {
	case api.Const:
		all := saidValues()
		n.Value = all[pick(len(all))]
	case api.Join:
		for i := 0; i < len(n.Kids); i += 2 {
			n.Kids[i] = Constant(Text(one(pick, Names())))
		}
	case api.Slice:
		if end := pick(3); end > 0 {
			n.Kids[end] = api.Node{}
		}
	case api.Def:
		for range pick(4) {
			n.Names = append(n.Names, [...]string{"", "$"}[pick(2)]+one(pick, FilterNames()))
		}
	}
	return n
}

// AlikeFilters says whether two filters are so part by part and field by field but for At, a list that is nil being like an empty one.
func AlikeFilters(a, b api.Node) bool {
	return alikeParts(a, b) && slices.EqualFunc(a.Kids, b.Kids, AlikeFilters)
}

// alikeParts says it of all but their kids.
func alikeParts(a, b api.Node) bool {
	return a.Op == b.Op && a.Text == b.Text && Alike(a.Value, b.Value) && slices.Equal(a.Names, b.Names)
}

// EqualFilters says it with At.
func EqualFilters(a, b api.Node) bool {
	return a.At == b.At && alikeParts(a, b) && slices.EqualFunc(a.Kids, b.Kids, EqualFilters)
}

// ToldFilter is a filter as a short text, for people: each part with its place behind an @, if places are wanted.
func ToldFilter(n api.Node, places bool) string {
	names := opNames()
	out := strconv.Itoa(n.Op)
	switch {
	case n.Op == api.Const:
		out = toldValue(n.Value)
	case n.Op >= 0 && n.Op < len(names):
		out = names[n.Op]
	}
	if n.Text != "" {
		out += "." + n.Text
	}
	if len(n.Names) > 0 {
		out += "<" + strings.Join(n.Names, " ") + ">"
	}
	if places {
		out += "@" + strconv.Itoa(n.At)
	}
	var kids []string
	for _, kid := range n.Kids {
		kids = append(kids, ToldFilter(kid, places))
	}
	if len(kids) > 0 {
		out += "(" + strings.Join(kids, " ") + ")"
	}
	return out
}

// toldValue is a value of a Const likewise.
func toldValue(v api.Value) string {
	switch v.Kind {
	case api.Null, api.False, api.True:
		return [...]string{"null", "false", "true"}[v.Kind]
	case api.Number:
		return v.Num
	case api.Text:
		return strconv.Quote(v.Text)
	}
	return "value" + strconv.Itoa(v.Kind)
}
