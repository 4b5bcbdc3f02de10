package eval_test

import (
	"slices"
	"testing"

	"hallmark/api"
	"hallmark/eval"
	"hallmark/scope"
	"hallmark/specimen"
	"hallmark/syntax"
)

// refuses holds all calls to an error, and to nothing beside it.
func refuses(t *testing.T, n api.Node, v api.Value, fuel int, want api.Errno) {
	t.Helper()
	wrong := runs().WrongRefusal(n, v, fuel, want)
	if ways, r, e := eval.Paths(n, v, fuel); wrong != "" || e != want || len(ways) > 0 || specimen.ToldResult(r) != specimen.ToldResult(api.Result{}) {
		t.Errorf("of %.300s on %.200v with %d: %s; of Paths %d: %v, %s, want %d", specimen.ToldFilter(n, false), v, fuel, wrong, e, ways, specimen.ToldResult(r), want)
	}
}

// takes holds all calls to no error.
func takes(t *testing.T, n api.Node, v api.Value, fuel int) {
	t.Helper()
	_, e := eval.Run(n, v, fuel)
	_, f := eval.Steps(n, v, fuel)
	_, _, g := eval.Paths(n, v, fuel)
	if e != api.OK || f != api.OK || g != api.OK {
		t.Errorf("of %.300s on %.200v with %d: %d, %d, %d", specimen.ToldFilter(n, false), v, fuel, e, f, g)
	}
}

// wrongShapes are filters that no run is of, by what is wrong with them.
func wrongShapes() map[string]api.Node {
	self := specimen.Part(api.Self)
	out := specimen.OpenFilters()
	out["not plain"] = specimen.Part(api.Update, self, self)
	out["all of these"] = specimen.Part(api.Put, specimen.NamedPart(api.Var, "x"), specimen.Part(api.Neg))
	out["not plain inside"] = specimen.Part(api.List, specimen.Part(api.Neg, specimen.Part(api.ElseTo, self, self)))
	out["a change beside"] = specimen.Part(api.Pipe, specimen.NamedPart(api.Var, "x"), specimen.Part(api.AddTo, self, self))
	return out
}

func TestP23_2Alone(t *testing.T) {
	self, null := specimen.Part(api.Self), api.Value{}
	takes(t, self, null, 0)
	takes(t, self, null, 1)
	takes(t, self, null, 1048576)
	for _, n := range wrongShapes() {
		refuses(t, n, null, 100, api.ErrShape)
	}
	for _, v := range specimen.Wrong() {
		refuses(t, self, v, 100, api.ErrShape)
	}
	for _, fuel := range specimen.WrongFuels() {
		refuses(t, self, null, fuel, api.ErrRange)
	}
	refuses(t, self, api.Value{Kind: api.Number, Num: "1.5"}, 100, api.ErrShape)
}

func TestP23_2Together(t *testing.T) {
	self, null := specimen.Part(api.Self), api.Value{}
	for _, fuel := range append(specimen.WrongFuels(), 0, 1, 1048576) {
		for _, n := range wrongShapes() {
			for _, v := range []api.Value{null, specimen.Num("1"), specimen.Kind(8), specimen.Num("07"), specimen.List(specimen.Kind(-1))} {
				refuses(t, n, v, fuel, api.ErrShape)
			}
		}
		for _, v := range specimen.Misshapen() {
			refuses(t, self, v, fuel, api.ErrShape)
		}
	}
}

// Filters that aren't well shaped, at the top and inside others.
func TestP23_2Misshapen(t *testing.T) {
	for i, n := range specimen.MisshapenFilters() {
		refuses(t, n, api.Value{}, 10, api.ErrShape)
		if n.Op == api.None {
			n.Text = "f" // a None may stand in a Slice
		}
		for k, around := range specimen.AroundFilter(n) {
			if (i+k)%7 == 0 {
				refuses(t, around, api.Value{}, 10, api.ErrShape)
			}
		}
	}
}

// Each Op of a change, at the top and deep inside.
func TestP23_2Changes(t *testing.T) {
	self := specimen.Part(api.Self)
	for op := api.Put; op <= api.ElseTo; op++ {
		n := specimen.Part(op, self, self)
		refuses(t, n, api.Value{}, 10, api.ErrShape)
		for _, around := range specimen.AroundFilter(n) {
			refuses(t, around, api.Value{}, 10, api.ErrShape)
		}
	}
}

// Filters that are drawn: all are refused but those that are closed and plain.
func TestP23_2Drawn(t *testing.T) {
	pick := pickOf(2321)
	told := map[bool]int{}
	for i := range 3000 {
		for _, n := range []api.Node{specimen.DrawnFilter(pick, 1+i%4), specimen.ClosedFilter(pick, 1+i%4)} {
			e, _ := scope.Check(n)
			right := e == api.OK && eval.Plain(n)
			told[right]++
			if right {
				takes(t, n, api.Value{}, 50)
			} else {
				refuses(t, n, api.Value{}, 50, api.ErrShape)
			}
			refuses(t, specimen.SpoiltFilter(n, pick), api.Value{}, 50, api.ErrShape)
		}
	}
	if told[true] < 1000 || told[false] < 1000 {
		t.Errorf("told: %v", told)
	}
}

// Filters that differ in one field of one part.
func TestP23_2Nudged(t *testing.T) {
	pick := pickOf(2322)
	for range 60 {
		for _, n := range specimen.NudgedFilters(specimen.ClosedFilter(pick, 4)) {
			if e, _ := scope.Check(n); e == api.OK && eval.Plain(n) && syntax.Formed(n) {
				takes(t, n, api.Value{}, 50)
			} else {
				refuses(t, n, api.Value{}, 50, api.ErrShape)
			}
		}
	}
}

// Values that are drawn and spoilt.
func TestP23_2SpoiltValues(t *testing.T) {
	pick := pickOf(2323)
	self := specimen.Part(api.Self)
	for _, v := range specimen.WellShaped(pick, 500) {
		takes(t, self, v, 50)
		refuses(t, self, specimen.Spoilt(v, pick), 50, api.ErrShape)
	}
}

// A list that is nil is like an empty one, and no answer hangs on which it is; nor on places.
func TestEmptyLists(t *testing.T) {
	pick := pickOf(2324)
	emptied := func(v api.Value) api.Value {
		v.Items, v.Keys = append([]api.Value{}, v.Items...), append([]string{}, v.Keys...)
		return v
	}
	for i := range 1500 {
		n, v := specimen.ClosedFilter(pick, 1+i%5), specimen.Drawn(pick, 2)
		placed := specimen.PlacedFilter(n, 1+pick(5))
		for _, inWays := range []bool{false, true} {
			want := gotRun(n, v, inWays, 300)
			for _, got := range []string{gotRun(specimen.EmptyListedFilter(n), v, inWays, 300), gotRun(n, emptied(v), inWays, 300), gotRun(placed, v, inWays, 300)} {
				same(t, n, v, "with empty lists, or places,", got, want)
			}
		}
	}
	if got := slices.Collect(none(t)); len(got) > 0 {
		t.Errorf("beside an error %v", got)
	}
}

// none is the sequence beside an error.
func none(t *testing.T) func(func(api.Result) bool) {
	seq, e := eval.Steps(api.Node{}, api.Value{}, 5)
	if e != api.ErrShape {
		t.Errorf("error %d", e)
	}
	return seq
}
