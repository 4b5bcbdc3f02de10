package specimen_test

import (
	"math/rand"
	"testing"

	"hallmark/api"
	"hallmark/scope"
	"hallmark/specimen"
	"hallmark/syntax"
)

// bareFilter is a filter with something in each kind of list.
func bareFilter() api.Node {
	object := specimen.Object([]string{"k", "l"}, specimen.List(specimen.Num("1")), api.Value{})
	constant := api.Node{Op: api.Const, At: 7, Value: object}
	return specimen.Definition("f", []string{"g", "$x"}, specimen.NamedPart(api.Call, "g", constant), specimen.Part(api.Pipe, specimen.Part(api.Self), specimen.Part(api.List)))
}

func madeFilter() api.Node { return specimen.RoomyFilter(bareFilter()) }

// What is written anywhere into a roomy filter is seen.
func TestUntouchedFilter(t *testing.T) {
	if !specimen.UntouchedFilter(madeFilter(), bareFilter()) || !specimen.EqualFilters(madeFilter(), bareFilter()) || !specimen.AlikeFilters(madeFilter(), bareFilter()) {
		t.Fatal("touched by nobody")
	}
	constant := func(n api.Node) *api.Node { return &n.Kids[0].Kids[0] }
	for i, write := range []func(n api.Node){
		func(n api.Node) { constant(n).At = 8 },
		func(n api.Node) { n.Kids[0].Op = api.Var },
		func(n api.Node) { n.Kids[0].Text = "h" },
		func(n api.Node) { n.Names[1] = "x" },
		func(n api.Node) { constant(n).Value.Keys[1] = "m" },
		func(n api.Node) { constant(n).Value.Items[0].Items[0].Num = "2" },
		func(n api.Node) { n.Kids[1].Kids[1].Op = api.Record },
		func(n api.Node) { _ = append(n.Kids, api.Node{}) },
		func(n api.Node) { _ = append(n.Kids, specimen.NamedPart(77, "spare"), api.Node{}) },
		func(n api.Node) { _ = append(n.Names, "") },
		func(n api.Node) { _ = append(n.Kids[1].Names, "") },
		func(n api.Node) { _ = append(n.Kids[1].Kids[0].Kids, api.Node{}) },
		func(n api.Node) { _ = append(n.Kids[1].Value.Keys, "") },
		func(n api.Node) { _ = append(constant(n).Value.Items, api.Value{}) },
	} {
		made := madeFilter()
		write(made)
		if specimen.UntouchedFilter(made, bareFilter()) {
			t.Errorf("what write %d does isn't seen", i)
		}
		if i <= 6 && specimen.EqualFilters(made, bareFilter()) || specimen.AlikeFilters(made, bareFilter()) != (i == 0 || i > 6) {
			t.Errorf("what write %d makes different isn't seen", i)
		}
	}
}

// What shares a place with another list, or within itself, isn't its own.
func TestOwnFilter(t *testing.T) {
	a, b := madeFilter(), madeFilter()
	if !specimen.OwnFilter(a) || !specimen.OwnFilter(a, b) || specimen.OwnFilter(a, b, a) {
		t.Fatal("two filters that share nothing")
	}
	v := a.Kids[0].Kids[0].Value
	for i, share := range []api.Node{{Kids: a.Kids}, {Kids: a.Kids[:0]}, {Names: a.Names[1:]}, {Names: a.Names[:0]}, {Value: v}, {Names: v.Keys}, a.Kids[1], {Value: api.Value{Items: v.Items[1:]}}, {Kids: a.Kids[1].Kids[0].Kids}} {
		if specimen.OwnFilter(share, b, a) || specimen.OwnFilter(specimen.Part(api.Neg, share), a) || specimen.OwnFilter(specimen.Part(api.Pipe, share, share)) {
			t.Errorf("what filter %d shares isn't seen", i)
		}
	}
	if !specimen.UntouchedFilter(a, bareFilter()) || !specimen.UntouchedFilter(b, bareFilter()) {
		t.Error("changed")
	}
}

func TestScribbleFilter(t *testing.T) {
	n := madeFilter()
	inner, v := n.Kids[1], n.Kids[0].Kids[0].Value
	specimen.ScribbleFilter(n)
	if n.Kids[0].Text != "scribbled" || n.Kids[:4][3].Text != "scribbled" || n.Names[:4][3] != "scribbled" || inner.Kids[1].Text != "scribbled" || v.Keys[0] != "scribbled" || v.Items[1].Text != "scribbled" {
		t.Errorf("%v, %v, %v", n, inner, v)
	}
}

func TestFilters(t *testing.T) {
	ops := map[int]int{}
	pick := specimen.Source(rand.New(rand.NewSource(17)).Intn)
	for range 1000 {
		n := specimen.DrawnFilter(pick, 4)
		ops[n.Op]++
		if !syntax.Formed(n) || syntax.Depth(n) > 4 {
			t.Errorf("drawn: %s", specimen.ToldFilter(n, false))
		}
		if spoilt := specimen.SpoiltFilter(n, pick); syntax.Formed(spoilt) {
			t.Errorf("spoilt: %s", specimen.ToldFilter(spoilt, false))
		}
	}
	if len(ops) != api.ElseTo {
		t.Errorf("%d Ops are drawn", len(ops))
	}
	if told := specimen.ToldFilter(bareFilter(), false); told != "def.f<g $x>(call.g(value6) pipe(self list))" {
		t.Error(told)
	}
	if told := specimen.ToldFilter(specimen.Part(-1, specimen.Constant(specimen.Text("é")), specimen.Constant(specimen.Num("7")), specimen.Constant(api.Value{})), true); told != `-1@0("é"@0 7@0 null@0)` {
		t.Error(told)
	}
}

func TestPlacedFilter(t *testing.T) {
	n := specimen.PlacedFilter(bareFilter(), 9)
	if !specimen.AlikeFilters(n, bareFilter()) || n.At != 9 || n.Kids[0].At != 9 || n.Kids[0].Kids[0].At != 9 || n.Kids[1].Kids[1].At != 9 {
		t.Errorf("it is %s", specimen.ToldFilter(n, true))
	}
	before := bareFilter()
	specimen.PlacedFilter(before, 9)
	if !specimen.EqualFilters(before, bareFilter()) {
		t.Errorf("what was given is %s", specimen.ToldFilter(before, true))
	}
}

func TestFunction(t *testing.T) {
	for written, want := range map[string]string{"f/0": "f", "_g1/12": "_g1"} {
		if name, arity := specimen.Function(written); name != want || arity != map[string]int{"f/0": 0, "_g1/12": 12}[written] {
			t.Errorf("%s is %s with %d", written, name, arity)
		}
	}
}

// drawnOps draws closed filters, holds them to being so, and counts their parts by Ops and by what they are called.
func drawnOps(t *testing.T, draw func(pick specimen.Source, deep int) api.Node) (map[int]int, map[string]int) {
	t.Helper()
	pick := specimen.Source(rand.New(rand.NewSource(18)).Intn)
	ops, texts := map[int]int{}, map[string]int{}
	var count func(n api.Node)
	count = func(n api.Node) {
		ops[n.Op]++
		texts[n.Text]++
		for _, kid := range n.Kids {
			count(kid)
		}
	}
	for i := range 5000 {
		n := draw(pick, 1+i%6)
		count(n)
		if e, _ := scope.Check(n); e != api.OK || syntax.Depth(n) > 1+i%6 {
			t.Errorf("error %d of %s", e, specimen.ToldFilter(n, false))
		}
	}
	return ops, texts
}

// Drawn closed filters are well shaped, closed and plain, of all Ops that aren't changes; names hide one another in them.
func TestClosedFilter(t *testing.T) {
	ops, _ := drawnOps(t, specimen.ClosedFilter)
	for op := api.Self; op <= api.ElseTo; op++ {
		if (ops[op] >= 50) != (op < api.Put) || op >= api.Put && ops[op] > 0 {
			t.Errorf("%d are of Op %d", ops[op], op)
		}
	}
}

// Those with changes are of all Ops, and have the names that changes bind.
func TestChangingFilter(t *testing.T) {
	ops, texts := drawnOps(t, specimen.ChangingFilter)
	for op := api.Self; op <= api.ElseTo; op++ {
		if ops[op] < 50 {
			t.Errorf("%d are of Op %d", ops[op], op)
		}
	}
	for _, name := range []string{"_", "__", "___"} {
		if texts[name] < 50 {
			t.Errorf("%d are called %s", texts[name], name)
		}
	}
}
