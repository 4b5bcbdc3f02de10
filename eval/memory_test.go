package eval_test

import (
	"testing"

	"hallmark/api"
	"hallmark/eval"
	"hallmark/specimen"
)

// handing are filters that hand on what they are given in many ways.
func handing() []string {
	return []string{".", "., .", "[., .]", ".[]?", ".[]?, .[]?", "[.[]?] | ., .[]", "error", "error(.)", "try error catch (., .)", ". as $x | $x, $x, [$x]", "reduce (1, 2) as $x (.; .)", "foreach (1, 2) as $x (.; .)", "foreach (1, 2) as $x (.; .; ., [.])", "reduce 1 as $x ([.]; [., .])", "{a: ., b: .} | ., .a", ".a?, .b?, .[0]?, .[-1]?", "(.[1:], .[:1])?", ". + null, null + .", "if . then . else [.] end", ". // [.]", "path(..)", "[path(..)] | .[], .[]", "[paths] | getpath(.[])?", "toarray", "getpath([])", "setpath([]; .)", "def f($x; g): $x, g, x; f(.; .)", "\"a\", \"a\", [\"a\"]", "(.. | keys?) as $k | $k, $k[]", "label $l | ., (., break $l)", ". == .", "tojson", "[.[]?, .] | sort, reverse, .[0]", "error([., .])", "..?", "path(getpath([.[]?])?)", "path(.[.[]?]?)", ".[.[]?]?", "getpath(.)?", "getpath([.[]?])?", ".[]? as $k | .[$k]?, getpath([$k])?"}
}

// given is a value and a filter with marked spare room.
type given struct {
	n, roomy   api.Node
	v, roomyIn api.Value
}

func givenOf(n api.Node, v api.Value) given {
	return given{n, specimen.RoomyFilter(n), v, specimen.Roomy(v)}
}

// unlike says what is wrong with what was handed in.
func (g given) changed() bool {
	return !specimen.UntouchedFilter(g.roomy, g.n) || !specimen.Untouched(g.roomyIn, g.v)
}

func (g given) places() specimen.Places {
	return specimen.PlacesOfFilters(g.roomy)
}

// placesOf are those of a result, its list of outputs too.
func placesOf(results ...api.Result) specimen.Places {
	var all []api.Value
	for _, r := range results {
		all = append(all, api.Value{Kind: api.Array, Items: r.Outs}, r.Fault)
	}
	return specimen.PlacesOf(all...)
}

// checkMemory holds all calls to the rules of memory.
func checkMemory(t *testing.T, n api.Node, v api.Value, fuel int) {
	t.Helper()
	g := givenOf(n, v)
	ok := func(what string, right bool) {
		t.Helper()
		if !right || g.changed() {
			t.Errorf("%s of %.300s on %.200s", what, written(n), json(v))
		}
	}
	a, _ := eval.Run(g.roomy, g.roomyIn, fuel)
	b, _ := eval.Run(g.roomy, g.roomyIn, fuel)
	want := toldRun(a.Outs, a)
	ok("what Run answers shares memory: Run", placesOf(a, b).Apart(g.places(), specimen.PlacesOf(g.roomyIn)))
	scribble(a)
	ok("what is written into an answer is seen elsewhere: Run", toldRun(b.Outs, b) == want && gotRun(g.roomy, g.roomyIn, false, fuel) == want)

	ways, r, _ := eval.Paths(g.roomy, g.roomyIn, fuel)
	again, s, _ := eval.Paths(g.roomy, g.roomyIn, fuel)
	want = gotRun(g.roomy, g.roomyIn, true, fuel)
	lists := placesOfWays(ways, again)
	ok("what Paths answers shares memory: Paths", specimen.PlacesOf(append(lists, r.Fault, s.Fault)...).Apart(g.places(), specimen.PlacesOf(g.roomyIn)))
	for _, way := range ways {
		specimen.Scribble(api.Value{Kind: api.Array, Items: way})
	}
	ok("what is written into an answer is seen elsewhere: Paths", gotRun(g.roomy, g.roomyIn, true, fuel) == want)
}

func placesOfWays(lists ...[][]api.Value) []api.Value {
	var out []api.Value
	for _, ways := range lists {
		for _, way := range ways {
			out = append(out, api.Value{Kind: api.Array, Items: way})
		}
	}
	return out
}

func scribble(r api.Result) {
	specimen.Scribble(api.Value{Kind: api.Array, Items: r.Outs})
	specimen.Scribble(r.Fault)
}

// checkStepsMemory holds Steps to them: what is written into a step, or into what was handed in, changes no other step.
func checkStepsMemory(t *testing.T, n api.Node, v api.Value, fuel int) {
	t.Helper()
	g := givenOf(n, v)
	want := gotSteps(n, v, fuel)
	seq := steps(t, g.roomy, g.roomyIn, fuel)
	if g.changed() {
		t.Errorf("Steps of %.300s on %.200s changes what is handed in", written(n), json(v))
	}
	var all []api.Result
	for r := range seq {
		all = append(all, r)
	}
	for r := range seq {
		all = append(all, r)
	}
	if !placesOf(all...).Apart(g.places(), specimen.PlacesOf(g.roomyIn)) || g.changed() {
		t.Errorf("what Steps of %.300s on %.200s gives shares memory", written(n), json(v))
	}
	got := ""
	for r := range seq {
		got += stepText(r) + "; "
		scribble(r)
	}
	if got != want || g.changed() {
		t.Errorf("Steps of %.300s on %.200s while its steps are written into: %s, want %s", written(n), json(v), got, want)
	}
	got = ""
	for r := range seq { // from the first step on nothing is any more as it was
		got += stepText(r) + "; "
		specimen.ScribbleFilter(g.roomy)
		specimen.Scribble(g.roomyIn)
	}
	if again := gotSeq(seq); got != want || again != want {
		t.Errorf("Steps of %.300s on %.200s behind changes of what was handed in: %s, %s, want %s", written(n), json(v), got, again, want)
	}
}

func gotSeq(seq func(func(api.Result) bool)) string {
	out := ""
	for r := range seq {
		out += stepText(r) + "; "
	}
	return out
}

func TestMemory(t *testing.T) {
	values := append(specimen.WellShaped(pickOf(2351), 30), specimen.JSON(`{"a":[1,{"b":[2]}],"b":["a",0,"b"],"c":"x"}`), specimen.JSON(`[[0],"a",{"a":[]},[[1,2],[3]]]`), specimen.JSON(`["a","b"]`), specimen.JSON("[1,0]"))
	for _, s := range handing() {
		n := parsed(t, s)
		for _, v := range values {
			checkMemory(t, n, v, 2000)
			checkStepsMemory(t, n, v, 2000)
		}
	}
}

func TestMemoryDrawn(t *testing.T) {
	pick := pickOf(2352)
	for i := range 2000 {
		n, v := specimen.ClosedFilter(pick, 1+i%6), specimen.Drawn(pick, 3)
		checkMemory(t, n, v, 300)
		checkStepsMemory(t, n, v, 300)
	}
	for _, n := range specimen.FilterForms() {
		checkRefusedMemory(t, n, specimen.JSON("[1]"), 5)
		checkRefusedMemory(t, specimen.SpoiltFilter(n, pick), specimen.JSON("[1]"), 5)
	}
}

// checkRefusedMemory holds what is refused, or not, to staying as it was.
func checkRefusedMemory(t *testing.T, n api.Node, v api.Value, fuel int) {
	t.Helper()
	for _, fuel := range []int{fuel, -1} {
		g := givenOf(n, v)
		eval.Plain(g.roomy)
		gotRun(g.roomy, g.roomyIn, false, fuel)
		gotRun(g.roomy, g.roomyIn, true, fuel)
		gotSteps(g.roomy, g.roomyIn, fuel)
		if g.changed() {
			t.Errorf("%.300s is changed", specimen.ToldFilter(n, false))
		}
	}
}

// What is handed in may share memory within itself: what is answered doesn't.
func TestMemoryShared(t *testing.T) {
	shared := specimen.JSON(`{"a":[1,"x"]}`)
	in := specimen.List(shared, shared, specimen.List(shared))
	for _, s := range handing() {
		n := parsed(t, s)
		r, _ := eval.Run(n, in, 2000)
		ways, p, _ := eval.Paths(n, in, 2000)
		if !placesOf(r).Apart(specimen.PlacesOf(shared)) || !specimen.PlacesOf(append(placesOfWays(ways), p.Fault)...).Apart(specimen.PlacesOf(shared)) {
			t.Errorf("what %s answers shares memory", s)
		}
	}
}

func TestSameness(t *testing.T) {
	pick := pickOf(2353)
	var filters []api.Node
	var values []api.Value
	for i := range 400 {
		filters, values = append(filters, specimen.ClosedFilter(pick, 1+i%6)), append(values, specimen.Drawn(pick, 2))
	}
	if !specimen.AtOnce(func() string {
		out := ""
		for i, n := range filters {
			out += gotRun(n, values[i], false, 300) + gotRun(n, values[i], true, 300) + gotSteps(n, values[i], 300) + "\n"
		}
		return out
	}) {
		t.Error("eight at once are answered otherwise than one alone")
	}
}

// One sequence may be gone through by several at once.
func TestStepsAtOnce(t *testing.T) {
	for _, s := range many() {
		seq := steps(t, parsed(t, s), specimen.JSON("[1,[2]]"), 300)
		if !specimen.AtOnce(func() string { return gotSeq(seq) }) {
			t.Errorf("%s: eight at once are answered otherwise than one alone", s)
		}
	}
}
