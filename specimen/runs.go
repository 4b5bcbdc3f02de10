package specimen

import (
	"iter"
	"slices"
	"strconv"

	"hallmark/api"
)

// Runs are the calls of a layer that runs filters on values: at once, and output by output.
type Runs struct {
	Run   func(n api.Node, v api.Value, fuel int) (api.Result, api.Errno)
	Steps func(n api.Node, v api.Value, fuel int) (iter.Seq[api.Result], api.Errno)
}

// Told is what Run answers as a short text, for people.
func (r Runs) Told(n api.Node, v api.Value, fuel int) string {
	got, e := r.Run(n, v, fuel)
	return ToldResult(got) + ToldError(e)
}

// ToldSteps is what Steps answers likewise, step by step.
func (r Runs) ToldSteps(n api.Node, v api.Value, fuel int) string {
	seq, e := r.Steps(n, v, fuel)
	return ToldResults(seq) + ToldError(e)
}

// ToldError is an error likewise: where there is none, nothing.
func ToldError(e api.Errno) string {
	if e == api.OK {
		return ""
	}
	return " error " + strconv.Itoa(int(e))
}

// ToldResults is what a sequence of results gives.
func ToldResults(seq iter.Seq[api.Result]) string {
	out := ""
	for r := range seq {
		out += ToldResult(r) + "; "
	}
	return out
}

// WrongRefusal tells how the calls answer otherwise than with this error, and nothing beside it: as all that tell what is wrong, it is empty if nothing is.
func (r Runs) WrongRefusal(n api.Node, v api.Value, fuel int, want api.Errno) string {
	got, e := r.Run(n, v, fuel)
	seq, f := r.Steps(n, v, fuel)
	switch {
	case e != want || f != want:
		return "the errors are " + strconv.Itoa(int(e)) + " and " + strconv.Itoa(int(f))
	case len(got.Outs) > 0 || ToldEnd(got) != ToldEnd(api.Result{}):
		return "beside the error is " + ToldResult(got)
	case seq == nil:
		return "beside the error is no sequence"
	}
	return ToldResults(seq) + ToldResults(seq)
}

// Given is a filter and a value, with copies of both whose lists have marks in their spare room.
type Given struct {
	filter, Filter api.Node // the copies are those that are handed in
	value, Value   api.Value
}

// GivenOf makes the copies.
func GivenOf(n api.Node, v api.Value) Given { return Given{n, RoomyFilter(n), v, Roomy(v)} }

// Changed says whether something has been written into what was handed in.
func (g Given) Changed() bool {
	return !UntouchedFilter(g.Filter, g.filter) || !Untouched(g.Value, g.value)
}

// Places are those of what is handed in.
func (g Given) Places() []Places { return []Places{PlacesOfFilters(g.Filter), PlacesOf(g.Value)} }

// WrongMemory tells how the calls fail the rules of memory.
func (r Runs) WrongMemory(n api.Node, v api.Value, fuel int) string {
	g, other := GivenOf(n, v), GivenOf(n, v)
	want := r.Told(other.Filter, other.Value, fuel)
	a, _ := r.Run(g.Filter, g.Value, fuel)
	b, e := r.Run(g.Filter, g.Value, fuel)
	if g.Changed() || !PlacesOfResults(a, b).Apart(g.Places()...) {
		return "Run changes what is handed in, or shares memory with it"
	}
	ScribbleResult(a)
	if ToldResult(b)+ToldError(e) != want || r.Told(g.Filter, g.Value, fuel) != want || g.Changed() {
		return "what is written into an answer of Run is seen elsewhere"
	}
	return r.wrongStepsMemory(GivenOf(n, v), GivenOf(n, v), fuel)
}

// wrongStepsMemory tells it of Steps: what is written into a step, or into what was handed in, changes no other step.
func (r Runs) wrongStepsMemory(g, other Given, fuel int) string {
	want := r.ToldSteps(other.Filter, other.Value, fuel)
	seq, e := r.Steps(g.Filter, g.Value, fuel)
	all := append(slices.Collect(seq), slices.Collect(seq)...)
	if g.Changed() || !PlacesOfResults(all...).Apart(g.Places()...) {
		return "Steps changes what is handed in, or shares memory with it"
	}
	got := ""
	for step := range seq {
		got += ToldResult(step) + "; "
		ScribbleResult(step)
	}
	if got += ToldError(e); got != want || g.Changed() {
		return "while the steps are written into they are " + got + ", want " + want
	}
	got = ""
	for step := range seq { // from the first step on nothing is any more as it was
		got += ToldResult(step) + "; "
		ScribbleFilter(g.Filter)
		Scribble(g.Value)
	}
	if again := ToldResults(seq) + ToldError(e); got+ToldError(e) != want || again != want {
		return "behind changes of what was handed in the steps are " + got + " and " + again + ", want " + want
	}
	return ""
}

// WrongSteps tells how Steps fails to give the same steps whenever one leaves them, goes through them again, or asks for them one by one, or to let a panic of the caller's through.
func (r Runs) WrongSteps(n api.Node, v api.Value, fuel int) string {
	seq, _ := r.Steps(n, v, fuel)
	all := toldUpTo(seq, -1)
	for most := 1; most <= len(all); most++ {
		if got := toldUpTo(seq, most); !slices.Equal(got, all[:most]) {
			return "left behind " + strconv.Itoa(most) + " steps they aren't the same"
		}
	}
	at := 0
	for step := range seq {
		if ToldResult(step) != all[at] || !slices.Equal(toldUpTo(seq, -1), all) {
			return "gone through within themselves they aren't the same"
		}
		at++
	}
	if !slices.Equal(pulledOf(seq), all) {
		return "asked for one by one they aren't the same"
	}
	if !letsPanic(seq) {
		return "a panic of the caller's doesn't come through"
	}
	return ""
}

// toldUpTo are the first steps; all of them, if so many is below 0.
func toldUpTo(seq iter.Seq[api.Result], most int) []string {
	var out []string
	for step := range seq {
		if out = append(out, ToldResult(step)); len(out) == most {
			break
		}
	}
	return out
}

// pulledOf are the steps asked for one by one, and an empty text if there is one behind the end.
func pulledOf(seq iter.Seq[api.Result]) []string {
	var out []string
	next, stop := iter.Pull(seq)
	defer stop()
	for step, ok := next(); ok; step, ok = next() {
		out = append(out, ToldResult(step))
	}
	if _, ok := next(); ok {
		out = append(out, "")
	}
	return out
}

func letsPanic(seq iter.Seq[api.Result]) (lets bool) {
	defer func() { lets = recover() == "mine" }()
	for range seq {
		panic("mine")
	}
	return false
}
