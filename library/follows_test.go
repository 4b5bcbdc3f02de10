package library_test

import (
	"slices"
	"testing"

	"hallmark/api"
	"hallmark/library"
	"hallmark/scope"
	"hallmark/specimen"
)

// freeOf are the names of a filter that stand for nothing in it.
func freeOf(n api.Node) []string {
	free, _ := scope.Free(n)
	return free
}

// called are filters that call each definition, all of them, some that are drawn, and some that are refused.
func called(t *testing.T, pick specimen.Source) []api.Node {
	t.Helper()
	var out []api.Node
	for _, l := range lines() {
		out = append(out, calling(l.name, specimen.Constant(specimen.Text("a"))))
	}
	for _, s := range []string{allCalled(lines()), "def f(a; $b): 1; f(1; 2)", "def map($f; g): first; map(map(.); {a, b: [first]})", "$x", "foo", "break $x | map(.)", "def path(f): .; .", `"\(.a)b\(map(.))"`, "[] | {} | {a: 1, b: map(.)}"} {
		out = append(out, parsed(t, s))
	}
	for range 300 {
		out = append(out, drawnCalls(pick, 4))
	}
	return append(out, specimen.FilterForms()...)
}

// A filter that is closed is answered as it is, places and all; so is what is answered.
func TestP22_3Closed(t *testing.T) {
	pick := pickOf(2231)
	closed := 0
	for _, n := range called(t, pick) {
		follows(t, n)
		out, e, _ := library.With(n)
		if e != api.OK {
			continue
		}
		if open, _ := scope.Check(n); specimen.EqualFilters(out, n) != (open == api.OK) {
			t.Errorf("With(%s) = %s", told(n), told(out))
		}
		if again, e, at := library.With(out); !specimen.EqualFilters(again, out) || e != api.OK || at != 0 {
			t.Errorf("With of %s = %s, %d, %d", told(out), told(again), e, at)
		}
		closed++
	}
	if closed < 150 {
		t.Errorf("only %d", closed)
	}
}

// A filter behind the library's whole text is closed already.
func TestP22_3WholeText(t *testing.T) {
	n := parsed(t, library.Text()+allCalled(lines()))
	answers(t, n, n, api.OK, 0)
	if front(n) != "" {
		t.Errorf("in front stands %s", front(n))
	}
	out, _, _ := library.With(parsed(t, allCalled(lines())))
	if !specimen.AlikeFilters(out, n) {
		t.Errorf("it is %s", told(out))
	}
}

// A list that is nil is like an empty one, and no answer hangs on which it is.
func TestEmptyLists(t *testing.T) {
	for _, n := range called(t, pickOf(2232)) {
		want, e, at := library.With(n)
		answers(t, specimen.EmptyListedFilter(n), want, e, at)
		answers(t, specimen.RoomyFilter(n), want, e, at)
	}
}

// What comes in stays as it was, the room behind its lists too.
func TestArguments(t *testing.T) {
	for _, n := range append(called(t, pickOf(2233)), specimen.MisshapenFilters()...) {
		given := specimen.RoomyFilter(n)
		out, _, _ := library.With(given)
		if !specimen.UntouchedFilter(given, n) {
			t.Errorf("changed: %s", told(n))
		}
		specimen.ScribbleFilter(out)
		if !specimen.UntouchedFilter(given, n) {
			t.Errorf("what is written into With(%s) is written into it", told(n))
		}
	}
}

// What is answered lies apart from the filter and from other answers, those of another call with the same filter among them.
func TestMemory(t *testing.T) {
	for _, n := range called(t, pickOf(2234)) {
		want, e, at := withOf(t, n)
		given := specimen.RoomyFilter(n)
		a, _, _ := library.With(given)
		b, _, _ := library.With(given)
		other, _, _ := library.With(parsed(t, allCalled(lines())))
		if !specimen.OwnFilter(a, b, given, other) || !specimen.OwnFilter(b, given, other) {
			t.Errorf("With(%s) shares memory", told(n))
		}
		again, _, _ := library.With(b)
		if !specimen.OwnFilter(again, a, b, given, other) {
			t.Errorf("With of With(%s) shares memory", told(n))
		}
		specimen.ScribbleFilter(a)
		specimen.ScribbleFilter(given)
		if !specimen.EqualFilters(b, want) {
			t.Errorf("With(%s) has become %s", told(n), told(b))
		}
		answers(t, n, want, e, at)
	}
}

// Parts that share a list when they come in share none when they go out.
func TestMemoryShared(t *testing.T) {
	twice := calling("map/1", calling("map/1", specimen.Part(api.Self)))
	n := specimen.Part(api.Both, twice, specimen.Definition("f", make([]string, 0, 4), twice, twice))
	n.Kids[1].Names = append(n.Kids[1].Names, "g")
	n.Kids = append(n.Kids, specimen.Part(77))[:2]
	n = specimen.Part(api.Pipe, n, n)
	checkWords(t, n)
	if out, _, _ := library.With(n); !specimen.OwnFilter(out, n) {
		t.Errorf("With(%s) shares memory", told(n))
	}
}

// The names are a list of their own each time.
func TestMemoryOfNames(t *testing.T) {
	want := slices.Clone(library.Names())
	a, b := library.Names(), library.Names()
	if !specimen.PlacesOf(api.Value{Keys: a}).Apart(specimen.PlacesOf(api.Value{Keys: b})) {
		t.Error("Names() shares its list")
	}
	specimen.Scribble(api.Value{Keys: a})
	_ = append(a[:0], "written")
	if !slices.Equal(b, want) || !slices.Equal(library.Names(), want) {
		t.Errorf("Names() = %q", library.Names())
	}
	needs(t, "map/1", "map(.)")
}

// Parts of every Op may be nested as deep as the document's bound, and deeper, with a call innermost.
func TestDeep(t *testing.T) {
	const many = 1<<16 + 1000
	for _, form := range specimen.FilterForms() {
		if form.Op == api.Call || form.Op == api.Join || len(form.Kids) == 0 || len(form.Kids) > 4 || form.Kids[0].Op == api.None {
			continue
		}
		n := calling("paths/1", specimen.Part(api.Self))
		for range many {
			outer := form
			outer.Kids = slices.Clone(form.Kids)
			outer.Kids[0] = n
			n = outer
		}
		out, e, at := library.With(n)
		if e != api.OK || at != 0 || front(out) != "select/1 recurse/1 recurse/0 paths/0 paths/1" {
			t.Fatalf("of a filter nested in Op %d: %d, %d", form.Op, e, at)
		}
		if !specimen.EqualFilters(out, inFront(t, named(t, front(out)), n)) {
			t.Errorf("of a filter nested in Op %d it is another one", form.Op)
		}
	}
}

// Very many calls of all definitions, side by side, need each definition once.
func TestManyCalls(t *testing.T) {
	var kids []api.Node
	for i := range 1 << 16 {
		kids = append(kids, calling(lines()[i*7919%len(lines())].name, specimen.Part(api.Self)))
	}
	n := specimen.Part(api.Record, kids...)
	want, e, at := withOf(t, n)
	answers(t, n, want, e, at)
	if front(want) != front(inFront(t, lines(), n)) {
		t.Errorf("in front stands %s", front(want))
	}
	kids[len(kids)-1] = api.Node{Op: api.Var, At: 99, Text: "x"}
	refuses(t, n, api.ErrName, 99)
}
