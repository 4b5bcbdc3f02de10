package eval_test

import (
	"testing"

	"hallmark/api"
	"hallmark/eval"
	"hallmark/specimen"
)

// handing are filters that hand on what they are given in many ways.
func handing() []string {
	return []string{".", "., .", "[., .]", ".[]?", ".[]?, .[]?", "[.[]?] | ., .[]", "error", "error(.)", "try error catch (., .)", ". as $x | $x, $x, [$x]", "reduce (1, 2) as $x (.; .)", "foreach (1, 2) as $x (.; .)", "foreach (1, 2) as $x (.; .; ., [.])", "reduce 1 as $x ([.]; [., .])", "{a: ., b: .} | ., .a", ".a?, .b?, .[0]?, .[-1]?", "(.[1:], .[:1])?", ". + null, null + .", "if . then . else [.] end", ". // [.]", "path(..)", "[path(..)] | .[], .[]", "[paths] | getpath(.[])?", "toarray", "getpath([])", "setpath([]; .)", "def f($x; g): $x, g, x; f(.; .)", "\"a\", \"a\", [\"a\"]", "(.. | keys?) as $k | $k, $k[]", "label $l | ., (., break $l)", ". == .", "tojson", "[.[]?, .] | sort, reverse, .[0]", "error([., .])", "..?", "path(getpath([.[]?])?)", "path(.[.[]?]?)", ".[.[]?]?", "getpath(.)?", "getpath([.[]?])?", ".[]? as $k | .[$k]?, getpath([$k])?"}
}

// checkMemory holds all calls to the rules of memory.
func checkMemory(t *testing.T, n api.Node, v api.Value, fuel int) {
	t.Helper()
	wrong := runs().WrongMemory(n, v, fuel)
	if wrong == "" {
		wrong = wrongWaysMemory(specimen.GivenOf(n, v), fuel)
	}
	if wrong != "" {
		t.Errorf("%.300s on %.200s: %s", written(n), json(v), wrong)
	}
}

// wrongWaysMemory tells how Paths fails them.
func wrongWaysMemory(g specimen.Given, fuel int) string {
	ways, r, _ := eval.Paths(g.Filter, g.Value, fuel)
	again, s, _ := eval.Paths(g.Filter, g.Value, fuel)
	want := gotRun(g.Filter, g.Value, true, fuel)
	lists := placesOfWays(ways, again)
	if g.Changed() || !specimen.PlacesOf(append(lists, r.Fault, s.Fault)...).Apart(g.Places()...) {
		return "Paths changes what is handed in, or shares memory with it"
	}
	for _, way := range ways {
		specimen.Scribble(api.Value{Kind: api.Array, Items: way})
	}
	if gotRun(g.Filter, g.Value, true, fuel) != want || g.Changed() {
		return "what is written into an answer of Paths is seen elsewhere"
	}
	return ""
}

func placesOfWays(lists ...[][]api.Value) []api.Value {
	var out []api.Value
	for _, ways := range lists {
		for _, way := range ways {
			out = append(out, api.Value{Kind: api.Array, Items: way})
		}
	}
	return out
}

func TestMemory(t *testing.T) {
	values := append(specimen.WellShaped(pickOf(2351), 30), specimen.JSON(`{"a":[1,{"b":[2]}],"b":["a",0,"b"],"c":"x"}`), specimen.JSON(`[[0],"a",{"a":[]},[[1,2],[3]]]`), specimen.JSON(`["a","b"]`), specimen.JSON("[1,0]"))
	for _, s := range handing() {
		n := parsed(t, s)
		for _, v := range values {
			checkMemory(t, n, v, 2000)
		}
	}
}

func TestMemoryDrawn(t *testing.T) {
	pick := pickOf(2352)
	for i := range 2000 {
		n, v := specimen.ClosedFilter(pick, 1+i%6), specimen.Drawn(pick, 3)
		checkMemory(t, n, v, 300)
	}
	for _, n := range specimen.FilterForms() {
		checkRefusedMemory(t, n, specimen.JSON("[1]"), 5)
		checkRefusedMemory(t, specimen.SpoiltFilter(n, pick), specimen.JSON("[1]"), 5)
	}
}

// checkRefusedMemory holds what is refused, or not, to staying as it was.
func checkRefusedMemory(t *testing.T, n api.Node, v api.Value, fuel int) {
	t.Helper()
	for _, fuel := range []int{fuel, -1} {
		g := specimen.GivenOf(n, v)
		eval.Plain(g.Filter)
		gotRun(g.Filter, g.Value, false, fuel)
		gotRun(g.Filter, g.Value, true, fuel)
		runs().ToldSteps(g.Filter, g.Value, fuel)
		if g.Changed() {
			t.Errorf("%.300s is changed", specimen.ToldFilter(n, false))
		}
	}
}

// What is handed in may share memory within itself: what is answered doesn't.
func TestMemoryShared(t *testing.T) {
	shared := specimen.JSON(`{"a":[1,"x"]}`)
	in := specimen.List(shared, shared, specimen.List(shared))
	for _, s := range handing() {
		n := parsed(t, s)
		r, _ := eval.Run(n, in, 2000)
		ways, p, _ := eval.Paths(n, in, 2000)
		if !specimen.PlacesOfResults(r).Apart(specimen.PlacesOf(shared)) || !specimen.PlacesOf(append(placesOfWays(ways), p.Fault)...).Apart(specimen.PlacesOf(shared)) {
			t.Errorf("what %s answers shares memory", s)
		}
	}
}

func TestSameness(t *testing.T) {
	pick := pickOf(2353)
	var filters []api.Node
	var values []api.Value
	for i := range 400 {
		filters, values = append(filters, specimen.ClosedFilter(pick, 1+i%6)), append(values, specimen.Drawn(pick, 2))
	}
	if !specimen.AtOnce(func() string {
		out := ""
		for i, n := range filters {
			out += gotRun(n, values[i], false, 300) + gotRun(n, values[i], true, 300) + runs().ToldSteps(n, values[i], 300) + "\n"
		}
		return out
	}) {
		t.Error("eight at once are answered otherwise than one alone")
	}
}

// One sequence may be gone through by several at once.
func TestStepsAtOnce(t *testing.T) {
	for _, s := range many() {
		seq := steps(t, parsed(t, s), specimen.JSON("[1,[2]]"), 300)
		if !specimen.AtOnce(func() string { return specimen.ToldResults(seq) }) {
			t.Errorf("%s: eight at once are answered otherwise than one alone", s)
		}
	}
}
