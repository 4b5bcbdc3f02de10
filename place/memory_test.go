package place_test

import (
	"testing"

	"hallmark/api"
	"hallmark/place"
	"hallmark/specimen"
)

// checkMemory holds all calls to the rules of memory.
func checkMemory(t *testing.T, n api.Node, v api.Value, fuel int) {
	t.Helper()
	wrong := wrongPlainMemory(n)
	if wrong == "" {
		wrong = runs().WrongMemory(n, v, fuel)
	}
	if wrong != "" {
		t.Errorf("%.300s on %.200s: %s", told(n), json(v), wrong)
	}
}

// wrongPlainMemory tells how Plain fails them.
func wrongPlainMemory(n api.Node) string {
	g := specimen.GivenOf(n, api.Value{})
	a, _ := place.Plain(g.Filter)
	b, _ := place.Plain(g.Filter)
	want := told(a)
	if g.Changed() || !specimen.PlacesOfFilters(a, b).Apart(g.Places()...) {
		return "Plain changes what is handed in, or shares memory with it"
	}
	specimen.ScribbleFilter(a)
	again, _ := place.Plain(g.Filter)
	if told(b) != want || told(again) != want || g.Changed() {
		return "what is written into an answer of Plain is seen elsewhere"
	}
	specimen.ScribbleFilter(g.Filter)
	if told(b) != want {
		return "what is written into a filter is seen in an answer of Plain"
	}
	return ""
}

// handing are filters that put in many ways what they are given.
func handing() []string {
	return []string{". = .", ". |= .", ".a? = .", ".[]? = .", ".[]? |= [., .]", ".[]? |= empty", ". //= .", ".a? //= [.]", ". += .", "(.a?, .b?) = (., [.])", ".. = .", ".. |= [.]", ". as $x | .[]? |= $x", ".[]? = (.[]?)", ".[]? |= (.[]? |= [.])", "[.[]? = 1, .]", "def f(g; $n): .[]? |= g, $n; f(., .; .)", "try (.[] = error) catch .", "error(.[]? = .)", ".a = 1 | ., .a", "(.a?, .a?) |= [.]", "{a: (. = .)} | .a", "label $l | .[]? |= (., break $l)", "reduce (1, 2) as $x (.; .[$x]? = .)", ".[1:]?", "walk(.)", "to_entries? | .[] |= [.]"}
}

func TestMemory(t *testing.T) {
	values := append(specimen.WellShaped(pickOf(2431), 20), specimen.JSON(`{"a":[1,{"b":[2]}],"b":["a",0,"b"],"c":"x"}`), specimen.JSON(`[[0],"a",{"a":[]},[[1,2],[3]]]`))
	for _, s := range handing() {
		n := parsed(t, s)
		for _, v := range values {
			checkMemory(t, n, v, 2000)
		}
	}
	pick := pickOf(2432)
	for i := range 1500 {
		checkMemory(t, specimen.ChangingFilter(pick, 1+i%6), specimen.Drawn(pick, 3), 300)
	}
}

// Filters of all Ops, not closed ones and misshapen ones too, with values of all kinds behind them that are refused.
func TestMemoryForms(t *testing.T) {
	pick := pickOf(2433)
	for _, n := range specimen.FilterForms() {
		for _, fuel := range []int{50, -1} {
			checkMemory(t, n, specimen.JSON("[1]"), fuel)
			checkMemory(t, specimen.SpoiltFilter(n, pick), specimen.JSON("[1]"), fuel)
			checkMemory(t, specimen.DrawnFilter(pick, 5), specimen.JSON("[1]"), fuel)
		}
	}
	for _, n := range closedOnes() {
		checkMemory(t, n, api.Value{Kind: api.Null, Keys: []string{"a"}, Items: []api.Value{{}}}, 50)
	}
}

// What is handed in may share memory within itself: what is answered doesn't.
func TestMemoryShared(t *testing.T) {
	shared := specimen.JSON(`{"a":[1,"x"]}`)
	in := specimen.List(shared, shared, specimen.List(shared))
	for _, s := range handing() {
		r, _ := place.Run(parsed(t, s), in, 2000)
		if !specimen.PlacesOfResults(r).Apart(specimen.PlacesOf(shared)) {
			t.Errorf("what the run of %s answers shares memory", s)
		}
	}
	kid := specimen.Definition("f", []string{"g"}, specimen.Part(api.List, specimen.Part(api.Self)), specimen.Part(api.Self))
	for _, op := range changes() {
		n := specimen.Part(op, kid, kid)
		if out := plain(t, specimen.Part(api.Both, n, n)); !specimen.OwnFilter(out, n) {
			t.Errorf("what Plain answers of a part that stands in it several times shares memory: %s", told(out))
		}
	}
}

func TestSameness(t *testing.T) {
	pick := pickOf(2434)
	var filters []api.Node
	var values []api.Value
	for i := range 300 {
		filters, values = append(filters, specimen.ChangingFilter(pick, 1+i%6)), append(values, specimen.Drawn(pick, 2))
	}
	if !specimen.AtOnce(func() string {
		out := ""
		for i, n := range filters {
			made, _ := place.Plain(n)
			out += told(made) + runs().Told(n, values[i], 300) + runs().ToldSteps(n, values[i], 300) + "\n"
		}
		return out
	}) {
		t.Error("eight at once are answered otherwise than one alone")
	}
}
