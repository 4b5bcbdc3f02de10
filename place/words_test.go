package place_test

import (
	"slices"
	"strings"
	"testing"

	"hallmark/api"
	"hallmark/eval"
	"hallmark/place"
	"hallmark/scope"
	"hallmark/specimen"
	"hallmark/syntax"
)

// textOf is what a change of these two, a and b, is rewritten to, as the chapter writes it.
func textOf(op int) string {
	update := func(b string) string {
		return "reduce path(a) as $p (.; setpath($p; reduce (getpath($p) | " + b + ") as $x (null; $x)))"
	}
	switch op {
	case api.Update:
		return update("b")
	case api.Put:
		return "b as $x | reduce path(a) as $p (.; setpath($p; $x))"
	case api.ElseTo:
		return "b as $x | " + update(". // $x")
	}
	return "b as $x | " + update(". "+[...]string{"+", "-", "*", "/", "%"}[op-api.AddTo]+" $x")
}

// inserted is a part of such a text with what stands for a, b, p and x, at a place.
func inserted(n api.Node, at int, names, kids map[string]api.Node) api.Node {
	if kid, ok := kids[n.Text]; ok && n.Op == api.Call {
		return kid
	}
	if name, ok := names[n.Text]; ok {
		n.Text = name.Text
	}
	n.At = at
	n.Kids = slices.Clone(n.Kids)
	for i, kid := range n.Kids {
		n.Kids[i] = inserted(kid, at, names, kids)
	}
	return n
}

// namesIn are all Texts and Names of a filter, the latter without their $ too.
func namesIn(n api.Node) map[string]bool {
	out := map[string]bool{}
	var in func(n api.Node)
	in = func(n api.Node) {
		out[n.Text] = true
		for _, name := range n.Names {
			out[name], out[strings.TrimLeft(name, "$")] = true, true
		}
		for _, kid := range n.Kids {
			in(kid)
		}
	}
	in(n)
	return out
}

// freshNames are p and x by the words.
func freshNames(n api.Node) (string, string) {
	all := namesIn(n)
	var out []string
	for name := "_"; len(out) < 2; name += "_" {
		if !all[name] {
			out = append(out, name)
		}
	}
	return out[0], out[1]
}

// rewritten is a well shaped filter rewritten, by the words.
func rewritten(t *testing.T, n api.Node) api.Node {
	t.Helper()
	texts := map[int]api.Node{}
	for _, op := range changes() {
		texts[op] = read(t, textOf(op))
	}
	p, x := freshNames(n)
	names := map[string]api.Node{"p": {Text: p}, "x": {Text: x}}
	var of func(n api.Node) api.Node
	of = func(n api.Node) api.Node {
		n.Kids = slices.Clone(n.Kids)
		for i, kid := range n.Kids {
			n.Kids[i] = of(kid)
		}
		if text, ok := texts[n.Op]; ok {
			return inserted(text, n.At, names, map[string]api.Node{"a": n.Kids[0], "b": n.Kids[1]})
		}
		return n
	}
	return of(n)
}

// checkPlain holds Plain of any filter to the words, and to what follows.
func checkPlain(t *testing.T, n api.Node) {
	t.Helper()
	got, e := place.Plain(n)
	if !syntax.Formed(n) {
		if e != api.ErrShape || !specimen.EqualFilters(got, api.Node{}) {
			t.Errorf("Plain(%.500s) = %.500s, %d, want an error", told(n), told(got), e)
		}
		return
	}
	if want := rewritten(t, n); !specimen.EqualFilters(got, want) || e != api.OK {
		t.Errorf("Plain(%.500s) = %.1500s, %d, want %.1500s", told(n), told(got), e, told(want))
	}
	checkFollows(t, n, got)
}

// checkFollows holds what Plain answers to P24.3 alone.
func checkFollows(t *testing.T, n, got api.Node) {
	t.Helper()
	if !eval.Plain(got) || !syntax.Formed(got) {
		t.Errorf("Plain(%.500s) isn't plain, or not well shaped: %.1500s", told(n), told(got))
	}
	if eval.Plain(n) && !specimen.EqualFilters(got, n) {
		t.Errorf("Plain(%.500s) is another one: %.1500s", told(n), told(got))
	}
	if again, e := place.Plain(got); !specimen.EqualFilters(again, got) || e != api.OK {
		t.Errorf("Plain of Plain(%.500s) is %.1500s, %d", told(n), told(again), e)
	}
	before, _ := scope.Check(n)
	after, _ := scope.Check(got)
	if (before == api.OK) != (after == api.OK) {
		t.Errorf("%.500s has the error %d, Plain of it %d", told(n), before, after)
	}
}

// checkRuns holds Run and Steps of a closed filter to eval's of what the words make of it, with each fuel that may tell something.
func checkRuns(t *testing.T, n api.Node, v api.Value, most int) api.Result {
	t.Helper()
	want := specimen.Runs{Run: eval.Run, Steps: eval.Steps}
	of := rewritten(t, n)
	whole, _ := eval.Run(of, v, most)
	for _, fuel := range fuelsOf(want, of, v, most) {
		if got, want := runs().Told(n, v, fuel), want.Told(of, v, fuel); got != want {
			t.Errorf("Run of %.500s on %.200s with %d: %.500s, want %.500s", told(n), json(v), fuel, got, want)
		}
		if got, want := runs().ToldSteps(n, v, fuel), want.ToldSteps(of, v, fuel); got != want {
			t.Errorf("Steps of %.500s on %.200s with %d: %.500s, want %.500s", told(n), json(v), fuel, got, want)
		}
	}
	return whole
}

// fuelsOf are the fuels with which a run is tried: all up to its price and a little more, if these aren't too many; else those around each step, and the ends.
func fuelsOf(r specimen.Runs, n api.Node, v api.Value, most int) []int {
	out := []int{0, 1, most, min(most+1, api.MaxFuel)}
	whole, _ := r.Run(n, v, most)
	price := most - whole.Left
	if price <= 100 {
		for fuel := range price + 3 {
			out = append(out, fuel)
		}
	}
	seq, _ := r.Steps(n, v, most)
	many := 0
	for step := range seq {
		if paid := most - step.Left; many < 20 {
			out = append(out, max(paid-1, 0), paid, min(paid+1, api.MaxFuel))
		}
		many++
	}
	slices.Sort(out)
	return slices.Compact(out)
}
