package eval_test

import (
	"slices"
	"strings"
	"testing"

	"hallmark/api"
	"hallmark/eval"
	"hallmark/path"
	"hallmark/specimen"
	"hallmark/value"
)

// checkFollows holds Run and Paths to P23.6 alone, with these fuels, which rise.
func checkFollows(t *testing.T, n api.Node, v api.Value, fuels []int) {
	t.Helper()
	for _, inWays := range []bool{false, true} {
		var last api.Result
		for i, fuel := range fuels {
			r := ranWith(n, v, inWays, fuel)
			wrong := follows(r, fuel)
			if i > 0 {
				wrong += behind(last, r, fuel-fuels[i-1])
			}
			if wrong != "" {
				t.Errorf("%.300s on %.200s in way mode %v with %d: %s: %s", written(n), json(v), inWays, fuel, wrong, toldRun(r.Outs, r))
			}
			last = r
		}
	}
	checkPathOf(t, n, v, fuels[len(fuels)-1])
	checkLeads(t, n, v, fuels[len(fuels)-1])
}

// ranWith is what Run answers, or Paths with the ways as arrays in the place of outputs.
func ranWith(n api.Node, v api.Value, inWays bool, fuel int) api.Result {
	if !inWays {
		r, _ := eval.Run(n, v, fuel)
		return r
	}
	ways, r, _ := eval.Paths(n, v, fuel)
	r.Outs = placesOfWays(ways)
	return r
}

// follows is what is wrong with one result.
func follows(r api.Result, fuel int) string {
	weight := 0
	for _, x := range r.Outs {
		weight += value.Weight(x)
		if !value.Formed(x) {
			return "an output isn't well shaped"
		}
	}
	switch {
	case !value.Formed(r.Fault):
		return "the fault isn't well shaped"
	case r.Left < 0 || weight+r.Left > fuel || r.Left == fuel && fuel > 0:
		return "it costs too little, or too much"
	case r.End != api.Done && r.End != api.Failed && r.End != api.Spent:
		return "it has no end"
	case r.End == api.Spent && r.Left != 0:
		return "it is spent, but something is left"
	case r.End != api.Failed && !specimen.Alike(r.Fault, api.Value{}):
		return "there is a fault beside another end"
	}
	return ""
}

// behind is what is wrong with a result behind that with less fuel.
func behind(less, r api.Result, more int) string {
	switch {
	case less.End == api.Spent && (len(r.Outs) < len(less.Outs) || !slices.EqualFunc(less.Outs, r.Outs[:len(less.Outs)], specimen.Alike)):
		return "the outputs don't begin as those with less fuel"
	case less.End == api.Spent:
		return ""
	case !slices.EqualFunc(less.Outs, r.Outs, specimen.Alike) || r.End != less.End || !specimen.Alike(r.Fault, less.Fault):
		return "it is another one than with less fuel"
	case r.Left != less.Left+more:
		return "what is left isn't more by as much"
	}
	return ""
}

// checkPathOf holds Paths of a filter to Run of path of it: the price is the same, but for the visit of the Call and for the outputs.
func checkPathOf(t *testing.T, n api.Node, v api.Value, most int) {
	t.Helper()
	want := ranWith(n, v, true, most)
	extra := 1
	for _, way := range want.Outs {
		extra += value.Weight(way)
	}
	of := specimen.NamedPart(api.Call, "path", n)
	if want.End == api.Spent {
		got, _ := eval.Run(of, v, min(most+extra, api.MaxFuel))
		same(t, n, v, "the outputs of path", toldRun(got.Outs[:min(len(got.Outs), len(want.Outs))], api.Result{}), toldRun(want.Outs, api.Result{}))
		return
	}
	got, e := eval.Run(of, v, most+extra)
	if e != api.OK {
		t.Fatalf("Run(%.300s) = %d", written(of), e)
	}
	same(t, n, v, "Run of path", toldRun(got.Outs, got), toldRun(want.Outs, want))
}

// checkLeads: each way leads somewhere; and to the outputs of Run, where no part has kept the fault of one that names no place.
func checkLeads(t *testing.T, n api.Node, v api.Value, fuel int) {
	t.Helper()
	r := ranWith(n, v, true, fuel)
	var ends []api.Value
	for _, way := range r.Outs {
		end, e := path.Get(v, way.Items)
		if e != api.OK {
			t.Errorf("the way %s of %.300s leads nowhere in %.200s", json(way), written(n), json(v))
		}
		ends = append(ends, end)
	}
	if run := ranWith(n, v, false, api.MaxFuel); r.End == api.Done && !catches(n) && !slices.EqualFunc(ends, run.Outs, specimen.Alike) {
		t.Errorf("the ways of %.300s on %.200s lead to %s, the outputs are %s", written(n), json(v), toldRun(ends, api.Result{}), toldRun(run.Outs, run))
	}
}

// catches says whether a filter has a part that goes on behind a fault.
func catches(n api.Node) bool {
	return n.Op == api.Try || n.Op == api.Else || slices.ContainsFunc(n.Kids, catches)
}

// upToFuel are the fuels from 0 on.
func upToFuel(many int) []int { return append(counted(many), 200, 333, 1000, 1001, 5000) }

func TestP23_6Follows(t *testing.T) {
	for _, s := range slices.Concat(many(), handing()) {
		for _, v := range []string{"null", "5", "[1,[2]]", `{"a":[1,{"b":[2]}],"b":["a",0,"b"]}`} {
			checkFollows(t, parsed(t, s), specimen.JSON(v), upToFuel(100))
		}
	}
}

func TestP23_6Drawn(t *testing.T) {
	pick := pickOf(2361)
	ends := [2][3]int{}
	for i := range 3000 {
		n, v := specimen.ClosedFilter(pick, 1+i%6), specimen.Drawn(pick, 3)
		checkFollows(t, n, v, upToFuel(40))
		ends[0][ranWith(n, v, false, 1000).End]++
		ends[1][ranWith(n, v, true, 1000).End]++
	}
	if slices.Min(ends[0][:2]) < 500 || slices.Min(ends[1][:2]) < 200 {
		t.Errorf("ends: %v", ends)
	}
}

// With all fuel that there may be: each run ends, and what can be paid is given.
func TestP23_6MaxFuel(t *testing.T) {
	for _, s := range []string{"def f: f; f", "def f: f | f; f", "def f: f, f; f", "def f: [f]; f", "def f: 1, f; f", "def f(g): g, f(g); f(1)", "def f(g): f(g | g); f(.)", "def f(g): f(g, g); f(.)", "range(0; 99999999999)", "[range(0; 99999999999)]", "reduce range(0; 999999) as $x (1; . * 7)", "def f: [., .] | f; f", "def f: . + . | f; 1 | f", `def f: . + . | f; "a" | f`, "def f: {a: .} | f; f", "def f: try f catch f; f", "def f: f // f; f", "def f: label $l | f, break $l; f", "def f: f as $x | 1; f", "def f: reduce f as $x (0; 1); f", "def f: foreach 1 as $x (0; f); f", "def f($x): f($x + 1); f(0)", "def f: . + 1 | if . > 100000 then . else f end; 0 | f", "last(range(0; 999999))", "[limit(5; def f: 1, f; f)]", "first(def f: 1, f; f)", "def f: path(f); f", "path(def f: .a | f; f)", "path(def f: .a, f; f)", `[range(0; 30000)] | sort, reverse, length`, "def f: f?; f", `def f: "\(f)"; f`, "def f: {(f): f}; f", "def f: f and f; f", "def f: if f then f else f end; f", "def f: -f; f", "def f: .[f]; f", "def f: f[0:1]; f", "def f: f == f; f", "def f: f[]; f"} {
		n := parsed(t, s)
		for _, fuel := range []int{1 << 20, 1 << 19} {
			r, e := eval.Run(n, api.Value{}, fuel)
			if wrong := follows(r, fuel); wrong != "" || e != api.OK {
				t.Errorf("%s with %d: %s, %d", s, fuel, wrong, e)
			}
			if r.End != api.Spent && strings.HasPrefix(s, "def f: f; ") {
				t.Errorf("%s with %d ends", s, fuel)
			}
		}
	}
}
