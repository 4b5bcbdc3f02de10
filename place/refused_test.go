package place_test

import (
	"testing"

	"hallmark/api"
	"hallmark/place"
	"hallmark/scope"
	"hallmark/specimen"
)

// refuses holds Run and Steps to an error, and to nothing beside it.
func refuses(t *testing.T, n api.Node, v api.Value, fuel int, want api.Errno) {
	t.Helper()
	if wrong := runs().WrongRefusal(n, v, fuel, want); wrong != "" {
		t.Errorf("of %.300s on %.200v with %d: %s, want %d", told(n), v, fuel, wrong, want)
	}
}

// takes holds them to no error.
func takes(t *testing.T, n api.Node, v api.Value, fuel int) {
	t.Helper()
	_, e := place.Run(n, v, fuel)
	_, f := place.Steps(n, v, fuel)
	if e != api.OK || f != api.OK {
		t.Errorf("of %.300s on %.200v with %d: %d, %d", told(n), v, fuel, e, f)
	}
}

// wrongShapes are filters that no run is of, with changes and without, by what is wrong with them.
func wrongShapes() map[string]api.Node {
	self := specimen.Part(api.Self)
	out := map[string]api.Node{"a missing kid": specimen.Part(api.Put, self), "a change inside a misshapen part": specimen.Part(api.List, specimen.Part(api.Put, self, self), self)}
	for name, n := range specimen.OpenFilters() {
		out[name] = n
		for sign, op := range changes() {
			out[name+" "+sign] = specimen.Part(op, n, self)
			out[sign+" "+name] = specimen.Part(api.List, specimen.Part(op, self, n))
		}
	}
	for _, s := range []string{"getpath", "path"} {
		out["a taken "+s] = specimen.Definition(s, []string{"g"}, self, specimen.Part(api.Update, self, self))
	}
	out["a taken setpath"] = specimen.Definition("setpath", []string{"$a", "b"}, self, specimen.Part(api.Put, self, self))
	out["a name that the change binds"] = specimen.Part(api.Update, self, specimen.NamedPart(api.Var, "_"))
	out["the other one"] = specimen.Part(api.AddTo, specimen.NamedPart(api.Var, "__"), self)
	return out
}

// closedOnes are filters of which runs are: each change, and others.
func closedOnes() []api.Node {
	self := specimen.Part(api.Self)
	out := []api.Node{self, specimen.Constant(specimen.Num("1"))}
	for _, op := range changes() {
		out = append(out, specimen.Part(op, self, self), specimen.Definition("setpath", []string{"a"}, self, specimen.Definition("path", nil, self, specimen.Part(op, self, specimen.NamedPart(api.Call, "path")))))
	}
	return out
}

func TestP24_2Alone(t *testing.T) {
	null := api.Value{}
	for _, n := range closedOnes() {
		for _, fuel := range []int{0, 1, 50, api.MaxFuel - 1, api.MaxFuel} {
			takes(t, n, null, fuel)
		}
		for _, v := range specimen.Wrong() {
			refuses(t, n, v, 100, api.ErrShape)
		}
		for _, fuel := range specimen.WrongFuels() {
			refuses(t, n, null, fuel, api.ErrRange)
		}
	}
	for _, n := range wrongShapes() {
		refuses(t, n, null, 100, api.ErrShape)
	}
}

func TestP24_2Together(t *testing.T) {
	null := api.Value{}
	for _, fuel := range append(specimen.WrongFuels(), 0, 1, api.MaxFuel) {
		for _, n := range wrongShapes() {
			for _, v := range []api.Value{null, specimen.Num("1"), specimen.Kind(8), specimen.Num("07"), specimen.List(specimen.Kind(-1))} {
				refuses(t, n, v, fuel, api.ErrShape)
			}
		}
		for _, v := range specimen.Misshapen() {
			for _, n := range closedOnes()[:4] {
				refuses(t, n, v, fuel, api.ErrShape)
			}
		}
	}
}

func TestP24_2Misshapen(t *testing.T) {
	self := specimen.Part(api.Self)
	for i, n := range specimen.MisshapenFilters() {
		refuses(t, n, api.Value{}, 10, api.ErrShape)
		if n.Op == api.None {
			n.Text = "f" // a None may stand in a Slice
		}
		refuses(t, specimen.Part(api.Put+i%8, self, n), api.Value{}, 10, api.ErrShape)
		refuses(t, specimen.Part(api.Put+i%8, n, self), api.Value{}, -1, api.ErrShape)
	}
}

// Filters that are drawn: all are refused but those that are closed.
func TestP24_2Drawn(t *testing.T) {
	pick := pickOf(2421)
	seen := map[bool]int{}
	check := func(n api.Node) {
		e, _ := scope.Check(n)
		seen[e == api.OK]++
		if e == api.OK {
			takes(t, n, api.Value{}, 50)
			refuses(t, n, api.Value{}, -1, api.ErrRange)
			refuses(t, n, specimen.Kind(9), -1, api.ErrShape)
		} else {
			refuses(t, n, api.Value{}, 50, api.ErrShape)
			refuses(t, n, api.Value{}, -1, api.ErrShape)
		}
	}
	for i := range 2000 {
		n := specimen.ChangingFilter(pick, 1+i%6)
		check(n)
		check(specimen.DrawnFilter(pick, 1+i%6))
		refuses(t, specimen.SpoiltFilter(n, pick), api.Value{}, 50, api.ErrShape)
		if i%40 == 0 {
			for _, n := range specimen.NudgedFilters(n) {
				check(n)
			}
		}
	}
	if seen[true] < 1500 || seen[false] < 1500 {
		t.Errorf("seen: %v", seen)
	}
}

// A list that is nil is like an empty one, and no answer hangs on which it is; nor do runs on places.
func TestEmptyLists(t *testing.T) {
	pick := pickOf(2422)
	for i := range 1000 {
		n, v := specimen.ChangingFilter(pick, 1+i%6), specimen.Drawn(pick, 2)
		empty := v
		empty.Items, empty.Keys = append([]api.Value{}, v.Items...), append([]string{}, v.Keys...)
		emptied := specimen.EmptyListedFilter(n)
		if !specimen.EqualFilters(plain(t, emptied), plain(t, n)) {
			t.Errorf("with empty lists Plain(%.500s) is another one", told(n))
		}
		want := runs().Told(n, v, 300)
		for _, got := range []string{runs().Told(emptied, v, 300), runs().Told(n, empty, 300), runs().Told(placed(n, 1+pick(5)), v, 300)} {
			if got != want {
				t.Errorf("with empty lists, or other places, the run of %.500s on %.200s is %.500s, want %.500s", told(n), json(v), got, want)
			}
		}
	}
}
