package eval_test

import (
	"slices"
	"strconv"
	"testing"

	"hallmark/api"
	"hallmark/eval"
	"hallmark/specimen"
	"hallmark/value"
)

// outcome is what a run comes to by the words, with any fuel up to some most.
type outcome struct {
	outs   []output
	end    int // Spent: it comes to no other one that is known
	fault  api.Value
	paid   int // what the whole run costs, if it ends
	most   int // the greatest fuel of which it tells
	inWays bool
}

// worked is the run of a filter on a value, or that of way mode, as far as so much fuel goes.
func worked(n api.Node, v api.Value, inWays bool, most int) (out outcome) {
	a := &account{most: most}
	defer func() {
		out.outs, out.paid = a.outs, a.paid
		switch why := recover(); why.(type) {
		case nil:
			out.most = api.MaxFuel
		case tooDear:
			out.end = api.Spent
		case never:
			out.end, out.most = api.Spent, api.MaxFuel
		default:
			panic(why)
		}
	}()
	out = outcome{most: most, inWays: inWays}
	e := visited{account: a}.of(n, place{v: v, ways: inWays}, nil, 0, func(x place) ending {
		weighed := x.v
		if inWays {
			weighed = specimen.List(x.way...)
		}
		a.pay(value.Weight(weighed))
		a.outs = append(a.outs, output{x.v, x.way, a.paid})
		return ending{}
	})
	out.end, out.fault = e.how, e.fault
	return out
}

// with is what comes of it with so much fuel: how many outputs, and the rest of the result.
func (o outcome) with(fuel int) (int, api.Result) {
	many := 0
	for many < len(o.outs) && o.outs[many].paid <= fuel {
		many++
	}
	if o.end == api.Spent || o.paid > fuel {
		return many, api.Result{End: api.Spent}
	}
	return many, api.Result{End: o.end, Fault: o.fault, Left: fuel - o.paid}
}

// fuels are some with which a run is tried: all up to its price and a little more, if these aren't too many; else those around each output, and the ends.
func (o outcome) fuels() []int {
	out := []int{o.most, min(o.paid, o.most), max(o.paid-1, 0)}
	if o.paid <= 150 {
		for i := range o.paid + 3 {
			out = append(out, i)
		}
	}
	for _, x := range o.outs[:min(len(o.outs), 20)] {
		out = append(out, x.paid-1, x.paid, x.paid+1)
	}
	slices.Sort(out)
	out = slices.Compact(out)
	return slices.DeleteFunc(out, func(fuel int) bool { return fuel > o.most })
}

// endText is how a run ended, as a text.
func endText(r api.Result) string { return specimen.ToldEnd(r) }

// toldRun is what a run came to with these outputs, as a text.
func toldRun(outs []api.Value, r api.Result) string {
	r.Outs = outs
	return specimen.ToldResult(r)
}

// wantRun is that by the words.
func (o outcome) wantRun(fuel int) string {
	many, r := o.with(fuel)
	var outs []api.Value
	for _, x := range o.outs[:many] {
		if o.inWays {
			outs = append(outs, specimen.List(x.way...))
		} else {
			outs = append(outs, x.v)
		}
	}
	return toldRun(outs, r)
}

// runs are the calls that give outputs.
func runs() specimen.Runs { return specimen.Runs{Run: eval.Run, Steps: eval.Steps} }

// gotRun is what Run or Paths answers, likewise.
func gotRun(n api.Node, v api.Value, inWays bool, fuel int) string {
	if !inWays {
		return runs().Told(n, v, fuel)
	}
	ways, r, e := eval.Paths(n, v, fuel)
	var outs []api.Value
	for _, way := range ways {
		outs = append(outs, specimen.List(way...))
	}
	if len(r.Outs) > 0 {
		return "outputs of Paths"
	}
	return toldRun(outs, r) + specimen.ToldError(e)
}

func stepText(r api.Result) string { return specimen.ToldResult(r) }

// wantSteps is that by the words.
func (o outcome) wantSteps(fuel int) string {
	many, r := o.with(fuel)
	out := ""
	for _, x := range o.outs[:many] {
		out += stepText(api.Result{Outs: []api.Value{x.v}, Left: fuel - x.paid}) + "; "
	}
	return out + stepText(r) + "; "
}

// checkWords holds Run, Steps and Paths of a filter on a value to the chapter's words, with each fuel that may tell something, and says what Run comes to.
func checkWords(t *testing.T, n api.Node, v api.Value, most int) outcome {
	t.Helper()
	run, ways := worked(n, v, false, most), worked(n, v, true, most)
	for _, fuel := range run.fuels() {
		same(t, n, v, "Run with "+strconv.Itoa(fuel), gotRun(n, v, false, fuel), run.wantRun(fuel))
		same(t, n, v, "Steps with "+strconv.Itoa(fuel), runs().ToldSteps(n, v, fuel), run.wantSteps(fuel))
	}
	for _, fuel := range ways.fuels() {
		same(t, n, v, "Paths with "+strconv.Itoa(fuel), gotRun(n, v, true, fuel), ways.wantRun(fuel))
	}
	return run
}

func same(t *testing.T, n api.Node, v api.Value, what, got, want string) {
	t.Helper()
	if got != want {
		t.Errorf("%s of %.500s on %.200s: %.500s, want %.500s", what, written(n), json(v), got, want)
	}
}
