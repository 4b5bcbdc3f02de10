package syntax_test

import (
	"math"
	"reflect"
	"slices"
	"testing"

	"hallmark/api"
	"hallmark/specimen"
	"hallmark/syntax"
)

func pickOf(seed int64) specimen.Source { return specimen.Source(newRand(seed).Intn) }

func part(op int, kids ...api.Node) api.Node { return specimen.Part(op, kids...) }

func text(s string) api.Node { return specimen.Constant(specimen.Text(s)) }

func number(s string) api.Node { return specimen.Constant(specimen.Num(s)) }

// checkFormed holds Formed of a filter, whatever its places are, and whether its lists are nil or empty.
func checkFormed(t *testing.T, n api.Node, want bool) {
	t.Helper()
	for _, same := range []api.Node{n, specimen.EmptyListedFilter(n), specimen.PlacedFilter(n, -7), specimen.PlacedFilter(n, math.MaxInt)} {
		if got := syntax.Formed(same); got != want {
			t.Errorf("Formed(%.500s): %v", specimen.ToldFilter(same, false), got)
		}
	}
}

func TestP17_2Examples(t *testing.T) {
	self, none := part(api.Self), api.Node{}
	checkFormed(t, number("-1"), false)
	checkFormed(t, part(api.Slice, self, none, none), false)
	checkFormed(t, part(api.Join, text("a"), self, self), false)
	sum, _, _ := syntax.Parse("1 + 2")
	if syntax.Depth(self) != 1 || syntax.Depth(sum) != 2 {
		t.Error("Depth")
	}
	a, _, _ := syntax.Parse(". | .")
	b, _, _ := syntax.Parse(".|.")
	if !syntax.Same(a, b) {
		t.Error("Same")
	}
}

// Each Op with just what it has, and with each part too many, too few, or of another kind.
func TestP17_2Formed(t *testing.T) {
	for _, n := range specimen.FilterForms() {
		checkFormed(t, n, true)
		for _, outer := range specimen.AroundFilter(n) {
			if syntax.Formed(outer) != formedOf(outer) || !formedOf(outer) {
				t.Errorf("Formed(%.500s): %v", specimen.ToldFilter(outer, false), syntax.Formed(outer))
			}
		}
	}
	for i, n := range specimen.MisshapenFilters() {
		if formedOf(n) {
			t.Errorf("%d: %s is well shaped", i, specimen.ToldFilter(n, false))
		}
		checkFormed(t, n, false)
		if i%7 != 0 || specimen.AlikeFilters(n, api.Node{}) {
			continue
		}
		for _, outer := range specimen.AroundFilter(n) {
			if syntax.Formed(outer) {
				t.Errorf("Formed(%.500s)", specimen.ToldFilter(outer, false))
			}
		}
	}
}

// Each number of kids of each Op there is and of others, held to the table of the chapter.
func TestP17_2HowManyKids(t *testing.T) {
	for op := -2; op <= api.ElseTo+3; op++ {
		for many := range 30 {
			n := specimen.OfOp(op, slices.Repeat([]api.Node{text("a")}, many)...)
			checkFormed(t, n, formedOf(n))
		}
	}
	for op, counts := range map[int][]int{
		api.Self: {0}, api.Const: {0}, api.Join: {3, 5, 7, 9}, api.List: {0, 1}, api.Record: {0, 2, 4, 6, 8}, api.Var: {0}, api.Break: {0}, api.Index: {2}, api.Slice: {3}, api.Each: {1}, api.Neg: {1}, api.Try: {1, 2}, api.Pipe: {2}, api.Both: {2}, api.Add: {2}, api.Ge: {2}, api.And: {2}, api.Or: {2}, api.Else: {2},
		api.If: {3}, api.Bind: {2}, api.Reduce: {3}, api.Foreach: {3, 4}, api.Def: {2}, api.Call: {0, 1, 2, 3, 4, 5, 6, 7, 8, 9}, api.Label: {1}, api.Put: {2}, api.Update: {2}, api.AddTo: {2}, api.ModTo: {2}, api.ElseTo: {2}, api.None: {}, -1: {}, 44: {},
	} {
		for many := range 10 {
			checkFormed(t, specimen.OfOp(op, slices.Repeat([]api.Node{text("a")}, many)...), slices.Contains(counts, many))
		}
	}
}

func TestP17_2Slices(t *testing.T) {
	self, none := part(api.Self), api.Node{}
	for _, c := range []struct {
		n    api.Node
		want bool
	}{
		{part(api.Slice, self, self, self), true}, {part(api.Slice, self, none, self), true}, {part(api.Slice, self, self, none), true}, {part(api.Slice, self, none, none), false}, {part(api.Slice, none, self, self), false}, {part(api.Slice, none, none, self), false},
		{part(api.Slice, self, api.Node{At: 5}, self), true}, {part(api.Slice, self, self, api.Node{At: -5}), true}, {part(api.Slice, self, api.Node{At: 5}, api.Node{At: 6}), false}, {part(api.Slice, self, api.Node{Kids: []api.Node{}, Names: []string{}}, self), true},
		{part(api.Slice, self, api.Node{Text: "f"}, self), false}, {part(api.Slice, self, self, api.Node{Value: specimen.Num("1")}), false}, {part(api.Slice, self, api.Node{Kids: []api.Node{self}}, self), false}, {part(api.Slice, self, self, api.Node{Names: []string{"g"}}), false}, {part(api.Slice, self, part(99), self), false}, {part(api.Slice, self, self, part(api.Neg)), false},
		{part(api.Slice, part(api.Slice, self, none, self), part(api.Slice, self, self, none), none), true}, {none, false}, {part(api.List, none), false}, {part(api.Index, self, none), false}, {part(api.Foreach, self, self, self, none), false}, {part(api.Try, self, none), false}, {part(api.Record, none, none), false}, {part(api.Join, text(""), none, text("")), false},
	} {
		checkFormed(t, c.n, c.want)
		checkFormed(t, part(api.Neg, part(api.Pipe, self, c.n)), c.want)
	}
}

func TestP17_2Constants(t *testing.T) {
	for _, v := range specimen.WellShaped(pickOf(172), 200) {
		want := v.Kind <= api.Text && (v.Kind != api.Number || v.Num[0] != '-')
		checkFormed(t, specimen.Constant(v), want)
		checkFormed(t, part(api.Join, text("a"), specimen.Constant(v), text("b")), want)
		checkFormed(t, part(api.Join, specimen.Constant(v), part(api.Self), text("b")), want && v.Kind == api.Text)
		checkFormed(t, part(api.Join, text("b"), part(api.Self), specimen.Constant(v)), want && v.Kind == api.Text)
		checkFormed(t, api.Node{Op: api.Self, Value: v}, specimen.Alike(v, api.Value{}))
	}
	for _, v := range specimen.Wrong() {
		checkFormed(t, specimen.Constant(v), false)
	}
	for _, s := range []string{"", "-0", "00", "-00", "+1", "-", "1.5", "٣"} {
		checkFormed(t, number(s), false)
	}
}

// Filters that are drawn, some of them spoilt somewhere, held to the chapter's words.
func TestP17_2DrawnFilters(t *testing.T) {
	pick := pickOf(173)
	right, wrong := 0, 0
	for range 2000 {
		n := specimen.DrawnFilter(pick, 5)
		checkFormed(t, n, true)
		spoilt := specimen.SpoiltFilter(n, pick)
		checkFormed(t, spoilt, false)
		for _, other := range specimen.NudgedFilters(specimen.DrawnFilter(pick, 2)) {
			if want := formedOf(other); syntax.Formed(other) != want {
				t.Errorf("Formed(%s): %v", specimen.ToldFilter(other, false), !want)
			} else if want {
				right++
			} else {
				wrong++
			}
		}
	}
	if right < 1000 || wrong < 1000 {
		t.Errorf("%d are well shaped, %d aren't", right, wrong)
	}
}

// depthOf is the number of the last level that has parts.
func depthOf(n api.Node) int {
	deep := 0
	for level := []api.Node{n}; len(level) > 0; deep++ {
		var next []api.Node
		for _, n := range level {
			next = append(next, n.Kids...)
		}
		level = next
	}
	return deep
}

func TestP17_2Depth(t *testing.T) {
	self := part(api.Self)
	for want, n := range map[int]api.Node{
		1: {}, 2: part(99, self, self, self), 3: part(api.Pipe, self, part(api.Neg, self)), 4: part(0, part(0, part(0, part(0)), part(0)), part(-1)), 5: part(api.Pipe, part(api.Neg, part(api.Neg, part(api.Neg, self))), part(api.Neg, self)),
	} {
		if got := syntax.Depth(n); got != want {
			t.Errorf("Depth(%s) = %d, want %d", specimen.ToldFilter(n, false), got, want)
		}
	}
	for _, n := range slices.Concat(specimen.FilterForms(), specimen.MisshapenFilters()) {
		for _, same := range []api.Node{n, specimen.EmptyListedFilter(n), specimen.PlacedFilter(n, -1)} {
			if got := syntax.Depth(same); got != depthOf(n) {
				t.Errorf("Depth(%s) = %d", specimen.ToldFilter(n, false), got)
			}
		}
	}
	pick := pickOf(174)
	for range 2000 {
		n := specimen.SpoiltFilter(specimen.DrawnFilter(pick, 7), pick)
		if got := syntax.Depth(n); got != depthOf(n) {
			t.Errorf("Depth(%s) = %d", specimen.ToldFilter(n, false), got)
		}
	}
}

// plain is a filter without places and with nil for each empty list, so that reflect can hold it against others.
func plain(n api.Node) api.Node {
	n.At = 0
	n.Value = plainValue(n.Value)
	n.Names = slices.Clip(append([]string(nil), n.Names...))
	kids := n.Kids
	n.Kids = nil
	for _, kid := range kids {
		n.Kids = append(n.Kids, plain(kid))
	}
	return n
}

func plainValue(v api.Value) api.Value {
	v.Keys = append([]string(nil), v.Keys...)
	items := v.Items
	v.Items = nil
	for _, item := range items {
		v.Items = append(v.Items, plainValue(item))
	}
	return v
}

func checkSame(t *testing.T, a, b api.Node, want bool) {
	t.Helper()
	if syntax.Same(a, b) != want || syntax.Same(b, a) != want || !syntax.Same(a, a) || reflect.DeepEqual(plain(a), plain(b)) != want {
		t.Errorf("Same(%.500s, %.500s): %v, %v", specimen.ToldFilter(a, false), specimen.ToldFilter(b, false), syntax.Same(a, b), syntax.Same(b, a))
	}
}

// Filters that differ in one field of one part; in At alone; in nil and empty lists.
func TestP17_2Same(t *testing.T) {
	pick := pickOf(175)
	all := slices.Concat(specimen.FilterForms(), specimen.MisshapenFilters()[:200])
	for range 300 {
		all = append(all, specimen.DrawnFilter(pick, 3), specimen.SpoiltFilter(specimen.DrawnFilter(pick, 3), pick))
	}
	for _, n := range all {
		for _, alike := range []api.Node{n, specimen.PlacedFilter(n, 12), specimen.PlacedFilter(n, -1), specimen.EmptyListedFilter(n), specimen.RoomyFilter(n), specimen.EmptyListedFilter(specimen.PlacedFilter(n, 9))} {
			checkSame(t, n, alike, true)
		}
		for _, other := range specimen.NudgedFilters(n) {
			checkSame(t, n, other, false)
		}
	}
	for range 3000 {
		a, b := oneOf(newRand(int64(pick(1<<30))), all), oneOf(newRand(int64(pick(1<<30))), all)
		checkSame(t, a, b, reflect.DeepEqual(plain(a), plain(b)))
	}
	deep := func(inner api.Value) api.Node { return specimen.Constant(specimen.Nested(inner, 50)) }
	checkSame(t, deep(specimen.Num("1")), deep(specimen.Num("1")), true)
	checkSame(t, deep(specimen.Num("1")), deep(specimen.Num("01")), false)
	checkSame(t, deep(api.Value{}), deep(specimen.Kind(-1)), false)
	checkSame(t, number("1"), text("1"), false)
	checkSame(t, part(api.Pipe, number("1"), number("2")), part(api.Pipe, number("2"), number("1")), false)
	checkSame(t, specimen.Definition("f", []string{"a", "b"}, part(api.Self), part(api.Self)), specimen.Definition("f", []string{"b", "a"}, part(api.Self), part(api.Self)), false)
	checkSame(t, specimen.Constant(specimen.Object([]string{"a"}, api.Value{})), specimen.Constant(specimen.Object([]string{"b"}, api.Value{})), false)
	checkSame(t, specimen.Constant(api.Value{Kind: api.Array, Items: []api.Value{{}}}), specimen.Constant(api.Value{Kind: api.Array}), false)
	checkSame(t, api.Node{}, api.Node{At: 1}, true)
}
