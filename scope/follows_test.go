package scope_test

import (
	"fmt"
	"slices"
	"strconv"
	"strings"
	"testing"

	"hallmark/api"
	"hallmark/scope"
	"hallmark/specimen"
)

// Filters that aren't well shaped, at the top and inside others; what is wrong with their names isn't told.
func TestP19_1Misshapen(t *testing.T) {
	for _, n := range specimen.MisshapenFilters() {
		n.At = 5
		refuses(t, n)
		if n.Op == api.None {
			n.Text = "f" // a None may stand in a Slice
		}
		for _, around := range specimen.AroundFilter(n) {
			around.At = 6
			refuses(t, around)
		}
	}
}

// A fault of names, ahead or behind, changes nothing of it.
func TestP19_1MisshapenFirst(t *testing.T) {
	wrong := []api.Node{{}, specimen.Part(api.Neg), specimen.NamedPart(api.Var, "if"), specimen.NamedPart(api.Call, ""), specimen.NamedPart(api.Break, "1"), specimen.Part(99)}
	for _, n := range wrong {
		for _, parts := range faulty() {
			for _, part := range parts {
				refuses(t, specimen.Part(api.Pipe, part, n))
				refuses(t, specimen.Part(api.Pipe, n, part))
				refuses(t, specimen.NamedPart(api.Call, "nobody", n))
			}
		}
		refuses(t, specimen.Definition("path", []string{"a"}, specimen.Part(api.Self), n))
	}
	refuses(t, specimen.Definition("path", []string{"1"}, specimen.Part(api.Self), specimen.Part(api.Self)))
}

// otherwise is a filter with other places, if these are wanted, and other values in its Consts, if these are.
func otherwise(n api.Node, pick specimen.Source, places, values bool) api.Node {
	if places {
		n.At = pick(1<<40) - 1<<39
	}
	if values && n.Op == api.Const {
		n.Value = [...]api.Value{{}, specimen.Kind(api.True), specimen.Num("0"), specimen.Num("123456789012345678901"), specimen.Text("f"), specimen.Text("")}[pick(6)]
	}
	n.Kids = slices.Clone(n.Kids)
	for i, kid := range n.Kids {
		n.Kids[i] = otherwise(kid, pick, places, values && mayChange(n, i))
	}
	return n
}

// faultyPart is the number of the part that Check tells of a filter, and its error: the places say it.
func faultyPart(n api.Node) (api.Errno, int) {
	n, _ = numbered(n, 1)
	return scope.Check(n)
}

// Other places and values change nothing but the place that is told.
func TestP19_4OtherPlaces(t *testing.T) {
	pick := pickOf(1941)
	for range 3000 {
		n := drawnNames(pick, 5)
		e, part := faultyPart(n)
		free, _ := scope.Free(n)
		for i := range 4 {
			other := otherwise(n, pick, i%2 == 1, i > 1)
			at := 0
			if e != api.OK {
				at = partAt(other, part)
			}
			checks(t, other, e, at)
			frees(t, other, free...)
		}
	}
}

// partAt is the place of the part of a number.
func partAt(n api.Node, number int) int { return seers(n, nil)[number-1].n.At }

// Names that are changed for others everywhere, each for one of its own, change nothing; but what is built in keeps its name.
func TestP19_4OtherNames(t *testing.T) {
	pick := pickOf(1942)
	for range 2000 {
		n := drawnNames(pick, 5)
		e, at := scope.Check(n)
		free, _ := scope.Free(n)
		other := renamed(n, func(s string) string { return "o" + s })
		if slices.ContainsFunc(seers(n, nil), func(s seer) bool { return isBuiltinName(s.n.Text) }) {
			continue
		}
		checks(t, other, e, at)
		for i, name := range free {
			if free[i] = "o" + name; strings.ContainsAny(name[:1], "$*") {
				free[i] = name[:1] + "o" + name[1:]
			}
		}
		frees(t, other, free...)
	}
}

// isBuiltinName says whether something built in has that name.
func isBuiltinName(s string) bool {
	return slices.ContainsFunc(builtins(), func(written string) bool { return strings.HasPrefix(written, s+"/") })
}

// renamed is a filter with other names.
func renamed(n api.Node, other func(string) string) api.Node {
	if specimen.HasName(n.Op) {
		n.Text = other(n.Text)
	}
	n.Names, n.Kids = slices.Clone(n.Names), slices.Clone(n.Kids)
	for i, name := range n.Names {
		bare := strings.TrimPrefix(name, "$")
		n.Names[i] = strings.TrimSuffix(name, bare) + other(bare)
	}
	for i, kid := range n.Kids {
		n.Kids[i] = renamed(kid, other)
	}
	return n
}

// A filter whose free names are bound around it has none any more.
func TestP19_4Bound(t *testing.T) {
	pick := pickOf(1943)
	for range 2000 {
		n := drawnNames(pick, 5)
		e, _ := scope.Check(n)
		free, _ := scope.Free(n)
		for _, name := range free {
			n = boundBy(n, name)
		}
		frees(t, n)
		if now, _ := scope.Check(n); now != api.OK && now != api.ErrTaken || e == api.ErrTaken && now != e {
			t.Errorf("Check(%s) = %d, and was %d", specimen.ToldFilter(n, false), now, e)
		}
	}
}

// boundBy is a filter within a part that binds a name.
func boundBy(n api.Node, name string) api.Node {
	self := specimen.Part(api.Self)
	switch name[0] {
	case '$':
		return specimen.NamedPart(api.Bind, name[1:], self, n)
	case '*':
		return specimen.NamedPart(api.Label, name[1:], n)
	}
	text, arity := specimen.Function(name)
	return specimen.Definition(text, slices.Repeat([]string{"$q"}, arity), self, n)
}

// A list that is nil is like an empty one.
func TestEmptyLists(t *testing.T) {
	pick := pickOf(1944)
	for range 1000 {
		n := drawnNames(pick, 4)
		other := specimen.EmptyListedFilter(n)
		e, at := scope.Check(n)
		free, _ := scope.Free(n)
		checks(t, other, e, at)
		frees(t, other, free...)
	}
}

// Parts of every Op may be nested as deep as the document's bound, and deeper, with a name that is bound outermost and one that isn't innermost.
func TestDeep(t *testing.T) {
	t.Parallel()
	const many = 1<<16 + 1000
	asks := specimen.Part(api.Both, calling("outer", 1), api.Node{Op: api.Var, Text: "nobody", At: 77})
	for _, form := range closedForms() {
		if len(form.Kids) > 4 || len(form.Names) > 4 {
			continue
		}
		for at := range form.Kids {
			if !mayChange(form, at) {
				continue
			}
			n := asks
			for range many {
				n = withKid(form, at, n)
			}
			n = specimen.Definition("outer", []string{"a"}, specimen.Part(api.Self), n)
			checks(t, n, api.ErrName, 77)
			frees(t, n, "$nobody")
		}
	}
}

// Very many names that are seen, and as many that are asked for, cost about what they are, not as many times as many.
func TestManyNames(t *testing.T) {
	t.Parallel()
	const many = 1 << 16
	var asks []api.Node
	var names []string
	for i := range many {
		name := "n" + strconv.Itoa(i)
		asks, names = append(asks, specimen.NamedPart(api.Var, name), calling(name, 0)), append(names, "$"+name)
	}
	asks[1].At = 9
	inside := specimen.Part(api.Record, asks...)
	n := specimen.Definition("f", names, inside, specimen.Part(api.Self))
	checks(t, n, api.OK, 0)
	frees(t, n)
	n = inside
	for _, name := range names {
		n = specimen.NamedPart(api.Bind, name[1:], specimen.Part(api.Self), n)
	}
	checks(t, n, api.ErrName, 9)
	for i := range many {
		n = specimen.Definition("n"+strconv.Itoa(i), nil, specimen.Part(api.Self), n)
	}
	checks(t, n, api.OK, 0)
	frees(t, n)
}

// What comes in stays as it was, its spare room too.
func TestArguments(t *testing.T) {
	pick := pickOf(1946)
	all := slices.Concat(closedForms(), specimen.FilterForms(), specimen.MisshapenFilters())
	for range 1000 {
		all = append(all, drawnNames(pick, 4))
	}
	for _, n := range all {
		given := specimen.RoomyFilter(n)
		scope.Check(given)
		scope.Free(given)
		if !specimen.UntouchedFilter(given, n) {
			t.Errorf("changed: %s", specimen.ToldFilter(n, true))
		}
	}
}

// keyed are the places of a list of names.
func keyed(names []string) specimen.Places { return specimen.PlacesOf(api.Value{Keys: names}) }

// Lists that were answered lie apart from one another and from the filter, and stay whatever is written into it.
func TestMemory(t *testing.T) {
	pick := pickOf(1947)
	some := 0
	for range 1000 {
		n := drawnNames(pick, 4)
		own := specimen.RoomyFilter(n)
		a, _ := scope.Free(own)
		b, _ := scope.Free(own)
		c, _ := scope.Free(n)
		if !keyed(a).Apart(keyed(b), keyed(c), specimen.PlacesOfFilters(own, n)) || !keyed(b).Apart(keyed(c)) {
			t.Errorf("Free(%s) shares its list", specimen.ToldFilter(n, false))
		}
		specimen.Scribble(api.Value{Keys: a})
		specimen.ScribbleFilter(own)
		scope.Free(own)
		if !slices.Equal(b, c) {
			t.Errorf("Free(%s) = %q, and is %q", specimen.ToldFilter(n, false), c, b)
		}
		frees(t, n, c...)
		some += len(a)
	}
	if some < 1000 {
		t.Errorf("only %d names", some)
	}
}

func TestSameness(t *testing.T) {
	pick := pickOf(1948)
	var all []api.Node
	for range 300 {
		n := drawnNames(pick, 5)
		all = append(all, n, specimen.SpoiltFilter(n, pick))
	}
	if !specimen.AtOnce(func() string {
		var told strings.Builder
		for _, n := range all {
			e, at := scope.Check(n)
			free, fault := scope.Free(n)
			fmt.Fprintln(&told, e, at, free, fault, scope.Builtin(n.Text, len(n.Kids)))
		}
		return told.String()
	}) {
		t.Error("the same calls answer otherwise")
	}
}
