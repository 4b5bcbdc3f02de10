package eval_test

import (
	"slices"
	"strconv"
	"strings"
	"testing"

	"hallmark/api"
	"hallmark/eval"
	"hallmark/specimen"
	"hallmark/syntax"
)

// deepest is how many parts may lie in one another.
const deepest = 1 << 16

// forms are ways to put a part into another one: each Op, the part being each kid that is visited in its turn, and calls.
func forms() map[string]func(n api.Node) api.Node {
	self, one, a := specimen.Part(api.Self), specimen.Constant(specimen.Num("1")), specimen.Constant(specimen.Text("a"))
	call := func(name string, kids ...api.Node) api.Node { return specimen.NamedPart(api.Call, name, kids...) }
	out := map[string]func(n api.Node) api.Node{
		"record's key":   func(n api.Node) api.Node { return specimen.Part(api.Record, n, one) },
		"record's value": func(n api.Node) api.Node { return specimen.Part(api.Record, a, n) },
		"join":           func(n api.Node) api.Node { return specimen.Part(api.Join, a, n, a) },
		"a body that a call visits": func(n api.Node) api.Node {
			return specimen.Definition("f", []string{"$x", "g"}, n, call("f", one, self))
		},
		"a definition's rest":       func(n api.Node) api.Node { return specimen.Definition("f", []string{"$x", "g"}, self, n) },
		"a part that a call visits": func(n api.Node) api.Node { return specimen.Definition("f", []string{"g"}, call("g"), call("f", n)) },
		"a value of a parameter":    func(n api.Node) api.Node { return specimen.Definition("f", []string{"$g"}, call("g"), call("f", n)) },
		"try's handler":             func(n api.Node) api.Node { return specimen.Part(api.Try, call("error"), n) },
		"try's body":                func(n api.Node) api.Node { return specimen.Part(api.Try, n, self) },
		"try alone":                 func(n api.Node) api.Node { return specimen.Part(api.Try, n) },
		"else behind a fault":       func(n api.Node) api.Node { return specimen.Part(api.Else, call("error"), n) },
		"and behind true":           func(n api.Node) api.Node { return specimen.Part(api.And, one, n) },
		"if's then":                 func(n api.Node) api.Node { return specimen.Part(api.If, one, n, self) },
		"foreach's extract":         func(n api.Node) api.Node { return specimen.NamedPart(api.Foreach, "x", one, self, self, n) },
		"break behind": func(n api.Node) api.Node {
			return specimen.NamedPart(api.Label, "l", specimen.Part(api.Both, n, specimen.NamedPart(api.Break, "l")))
		},
		"a slice's bound":      func(n api.Node) api.Node { return specimen.Part(api.Slice, self, api.Node{}, n) },
		"a pipe behind labels": func(n api.Node) api.Node { return specimen.NamedPart(api.Label, "l", specimen.Part(api.Pipe, n, self)) },
	}
	for _, name := range []string{"error", "path", "getpath", "has", "_sort_by"} {
		out[name] = func(n api.Node) api.Node { return call(name, n) }
	}
	for _, name := range []string{"range", "setpath"} {
		out[name+" first"] = func(n api.Node) api.Node { return call(name, n, one) }
		out[name+" last"] = func(n api.Node) api.Node { return call(name, one, n) }
	}
	for op := api.List; op < api.Put; op++ {
		for _, many := range specimen.KidCounts(op) {
			for at := range many {
				told := op == api.Join || op == api.Record || op == api.Def || op == api.Call
				if alike := op > api.Add && op <= api.Mod || op > api.Eq && op <= api.Ge; told || alike {
					continue
				}
				kids := slices.Repeat([]api.Node{self}, many)
				out[strconv.Itoa(op)+" "+strconv.Itoa(many)+" "+strconv.Itoa(at)] = func(n api.Node) api.Node {
					l := slices.Clone(kids)
					l[at] = n
					return specimen.OfOp(op, l...)
				}
			}
		}
	}
	return out
}

// nested is a Self in so many of these.
func nested(into func(n api.Node) api.Node, deep int) api.Node {
	n := specimen.Part(api.Self)
	for range deep {
		n = into(n)
	}
	return n
}

// Parts nested as deep as may be. Where a few more cost as much each time, so must very many.
func TestDeepFilters(t *testing.T) {
	held := 0
	for name, into := range forms() {
		most := (deepest - 1) / (syntax.Depth(into(specimen.Part(api.Self))) - 1)
		for _, inWays := range []bool{false, true} {
			if checkDeep(t, name, into, inWays, most) {
				held++
			}
			most /= 10 // it goes much the same way
		}
	}
	if held < 80 {
		t.Errorf("only %d are held", held)
	}
}

// checkDeep holds parts in so many of these to what few of them come to, if that tells it, and says whether it does.
func checkDeep(t *testing.T, name string, into func(n api.Node) api.Node, inWays bool, many int) bool {
	t.Helper()
	var few [3]outcome
	for i := range few {
		few[i] = worked(nested(into, 20+i), api.Value{}, inWays, 100000)
	}
	r := ranWith(nested(into, many), api.Value{}, inWays, api.MaxFuel)
	if wrong := follows(r, api.MaxFuel); wrong != "" {
		t.Errorf("%s: %s", name, wrong)
	}
	each := few[1].paid - few[0].paid
	paid := few[0].paid + each*(many-20)
	if few[2].paid-few[1].paid != each || few[1].end != few[2].end || len(few[1].outs) != len(few[2].outs) || paid > api.MaxFuel || strings.Contains(name, "call") {
		return false
	}
	outs, want := few[2].with(few[2].paid)
	if r.End != want.End || r.Left != api.MaxFuel-paid || len(r.Outs) != outs {
		t.Errorf("%s in way mode %v: %d outputs, %s, want %d, a price of %d", name, inWays, len(r.Outs), endText(r), outs, paid)
	}
	return true
}

// Filters with very many kids side by side.
func TestWide(t *testing.T) {
	const many = 50000
	self, one := specimen.Part(api.Self), specimen.Constant(specimen.Num("1"))
	join, record, call := specimen.Part(api.Join), specimen.Part(api.Record), specimen.NamedPart(api.Call, "f")
	var names, valued []string
	for i := range many {
		join.Kids = append(join.Kids, specimen.Constant(specimen.Text("")), self)
		record.Kids = append(record.Kids, specimen.Constant(specimen.Text("k")), self)
		call.Kids = append(call.Kids, one)
		names, valued = append(names, "n"+strconv.Itoa(i)), append(valued, "$n"+strconv.Itoa(i))
	}
	join.Kids = append(join.Kids, specimen.Constant(specimen.Text("")))
	last := specimen.NamedPart(api.Call, names[many-1])
	text := specimen.Text("a")
	for name, x := range map[string]struct {
		n    api.Node
		paid int
	}{
		"join":          {join, 1 + 2*many + 1 + 2*(many+1)},
		"record":        {record, 1 + 2*many + 2*(1+1+1+2)},
		"parameters":    {specimen.Definition("f", names, last, call), 1 + 1 + 1 + 1 + 2},
		"with values":   {specimen.Definition("f", valued, last, call), 1 + 1 + many + 1 + 2},
		"both, in each": {specimen.Definition("f", slices.Repeat([]string{"g", "$h"}, many/2), specimen.Part(api.Both, specimen.NamedPart(api.Call, "g"), specimen.NamedPart(api.Var, "h")), call), 1 + 1 + many/2 + 1 + 2 + 1 + 2 + 2},
	} {
		r, e := eval.Run(x.n, text, api.MaxFuel)
		if r.End != api.Done || api.MaxFuel-r.Left != x.paid || e != api.OK {
			t.Errorf("%s: %d outputs, %s, %d, want a price of %d", name, len(r.Outs), endText(r), e, x.paid)
		}
	}
}

// Values nested as deep as may be, gone into step by step.
func TestDeepValues(t *testing.T) {
	arrays := specimen.Num("7")
	for range deepest - 1 {
		arrays = specimen.List(arrays)
	}
	mixed := specimen.Nested(specimen.Num("7"), deepest-1)
	for _, x := range []struct {
		filter string
		v      api.Value
		out    string
	}{
		{"reduce range(0; 65535) as $x (.; .[0])", arrays, "7"},
		{"reduce range(0; 65535) as $x (.; .[])", arrays, "7"},
		{"reduce range(0; 65535) as $x (.; .[]) | . + 1", mixed, "8"},
		{"reduce range(0; 65535) as $x (.; .a? // .[0]?) | .", mixed, "7"},
		{"[.] | .[0] | [.[]] | length", mixed, "1"},
		{"{a: .} | {b: .a} | .b | . == .", mixed, "true"},
		{". as $x | [$x, $x] | .[0] == .[1]", mixed, "true"},
		{"try error catch . | length", mixed, "1"},
	} {
		r, e := eval.Run(parsed(t, x.filter), x.v, api.MaxFuel)
		if len(r.Outs) != 1 || json(r.Outs[0]) != x.out || r.End != api.Done || e != api.OK {
			t.Errorf("%s: %d outputs, %s, %d, want %s", x.filter, len(r.Outs), endText(r), e, x.out)
		}
	}
	for _, s := range []string{".", "try error catch .", "..", "error", "., .", "[., .]", "path(..)", "tojson", "{a: .}", ".[0]", ".[]"} {
		r, e := eval.Run(parsed(t, s), mixed, api.MaxFuel)
		if wrong := follows(r, api.MaxFuel); wrong != "" || e != api.OK {
			t.Errorf("%s: %s, %d", s, wrong, e)
		}
	}
}

// Visits within one another, as many as the fuel is enough for: the parts of a long filter within its own calls.
func TestDeepVisits(t *testing.T) {
	for _, long := range []int{100, 1000, 10000} {
		for _, s := range []string{strings.Repeat(". | ", long) + "f", "f" + strings.Repeat(" | .", long), strings.Repeat("., ", long) + "f", "f" + strings.Repeat(", 1", long), "f" + strings.Repeat(" // 1", long), "f" + strings.Repeat(" + 1", long), "f" + strings.Repeat("?", long), strings.Repeat(". as $x | ", long) + "f", strings.Repeat("label $l | ", long) + "f", strings.Repeat("def g: .; ", long) + "f"} {
			n := parsed(t, "def f: "+s+"; f")
			r, e := eval.Run(n, api.Value{}, api.MaxFuel)
			if wrong := follows(r, api.MaxFuel); wrong != "" || e != api.OK || r.End != api.Spent {
				t.Errorf("%.50s and so on: %s, %s, %d", s, wrong, endText(r), e)
			}
		}
	}
}

// Names far out: what is asked for very often is found soon, however many lie between.
func TestDeepNames(t *testing.T) {
	var definitions, variables strings.Builder
	for i := range 50000 {
		definitions.WriteString("def g" + strconv.Itoa(i) + ": 2; ")
		variables.WriteString("2 as $y" + strconv.Itoa(i) + " | ")
	}
	const often = 30000
	for s, paid := range map[string]int{
		"def f: 1; " + definitions.String() + "reduce range(0; 30000) as $x (0; f)": 50001 + 5 + often*2,
		"1 as $x | " + variables.String() + "reduce range(0; 30000) as $y (0; $x)":  2*50001 + 5 + often,
	} {
		n, _, _ := syntax.Parse(s)
		r, e := eval.Run(n, api.Value{}, api.MaxFuel)
		paid += 10*2 + 90*3 + 900*4 + 9000*5 + 20000*6 + 2 // the numbers that are made, the output
		if len(r.Outs) != 1 || json(r.Outs[0]) != "1" || e != api.OK || api.MaxFuel-r.Left != paid {
			t.Errorf("%.30s and so on: %s, %d, want a price of %d", s, toldRun(r.Outs, r), e, paid)
		}
	}
}

// Ways as long as the fuel is enough for.
func TestDeepWays(t *testing.T) {
	const long = 60000
	n := specimen.Part(api.Self)
	for range long {
		n = specimen.Part(api.Index, n, specimen.Constant(specimen.Text("")))
	}
	ways, r, _ := eval.Paths(n, api.Value{}, api.MaxFuel)
	if len(ways) != 1 || len(ways[0]) != long || api.MaxFuel-r.Left != 2*long+1+long+1 {
		t.Errorf("%d ways, %s", len(ways), endText(r))
	}
	r, _ = eval.Run(specimen.NamedPart(api.Call, "path", n), api.Value{}, api.MaxFuel)
	if len(r.Outs) != 1 || len(r.Outs[0].Items) != long || api.MaxFuel-r.Left != 1+2*long+1+2*(long+1) {
		t.Errorf("%d ways, %s", len(r.Outs), endText(r))
	}
	keys := specimen.List(slices.Repeat([]api.Value{specimen.Num("0")}, long)...)
	for s, want := range map[string]int{"path(getpath(.)?)": 0, ". as $p | null | path(getpath($p))": 1, ". as $p | null | getpath($p)": 1, ". as $p | null | setpath($p; 1) | getpath($p)": 1} {
		r, _ = eval.Run(parsed(t, s), keys, api.MaxFuel)
		if len(r.Outs) != want || r.End != api.Done {
			t.Errorf("%s: %d outputs, %s", s, len(r.Outs), endText(r))
		}
	}
}

// Ways that are long, but never made, are shared.
func TestLongWays(t *testing.T) {
	const often = 300
	keys := specimen.List(slices.Repeat([]api.Value{specimen.Text("k")}, 50000)...)
	n := parsed(t, ". as $p | null | path("+strings.Repeat("getpath($p) | ", often)+"empty)")
	made := testing.AllocsPerRun(1, func() {
		if r, _ := eval.Run(n, keys, api.MaxFuel); r.End != api.Done || api.MaxFuel-r.Left != 6+3*often {
			t.Errorf("it costs %d", api.MaxFuel-r.Left)
		}
	})
	if made > 100*often {
		t.Errorf("%v pieces of memory are made", made)
	}
	spends(t, ". as $p | [range(0; 300) | \"k\"] as $p | path("+strings.Repeat("getpath($p) | ", 3000)+".)", "", api.MaxFuel)
}
