package place_test

import (
	"slices"
	"strings"
	"testing"

	"hallmark/api"
	"hallmark/eval"
	"hallmark/place"
	"hallmark/specimen"
	"hallmark/syntax"
)

// deepest is how many parts may lie in one another.
const deepest = 1 << 16

// forms are ways to put a part into a change, as each of its kids, and into others that stand around changes.
func forms() map[string]func(n api.Node) api.Node {
	self, one := specimen.Part(api.Self), specimen.Constant(specimen.Num("1"))
	out := map[string]func(n api.Node) api.Node{}
	for sign, op := range changes() {
		out["a "+sign] = func(n api.Node) api.Node { return specimen.Part(op, n, one) }
		out[sign+" b"] = func(n api.Node) api.Node { return specimen.Part(op, self, n) }
		other := one // such that the number doesn't grow
		if op == api.AddTo || op == api.SubTo {
			other = specimen.Constant(specimen.Num("0"))
		}
		out["a pipe behind "+sign] = func(n api.Node) api.Node { return specimen.Part(api.Pipe, specimen.Part(op, self, other), n) }
	}
	out["a try's places"] = func(n api.Node) api.Node { return specimen.Part(api.Update, specimen.Part(api.Try, n), one) }
	out["a definition's body"] = func(n api.Node) api.Node {
		return specimen.Part(api.Put, self, specimen.Definition("f", []string{"$x", "_"}, n, one))
	}
	out["a definition's rest"] = func(n api.Node) api.Node {
		return specimen.Definition("__", []string{"g"}, specimen.Part(api.Put, self, one), n)
	}
	return out
}

// nested is a Self in so many of these.
func nested(into func(n api.Node) api.Node, deep int) api.Node {
	n := specimen.Part(api.Self)
	for range deep {
		n = into(n)
	}
	return n
}

// priced is what a run costs, and the run.
func priced(n api.Node, fuel int) (int, api.Result) {
	r, _ := place.Run(n, specimen.Num("1"), fuel)
	return fuel - r.Left, r
}

// Changes nested as deep as may be. Where a few more cost as much each time, so must very many.
func TestDeep(t *testing.T) {
	held := 0
	for name, into := range forms() {
		many := (deepest - 1) / (syntax.Depth(into(specimen.Part(api.Self))) - 1)
		if strings.ContainsAny(name, "-*/%") && !strings.Contains(name, "//") {
			many /= 10 // it goes as with +=
		}
		n := nested(into, many)
		if got, e := place.Plain(n); e != api.OK || !specimen.EqualFilters(got, rewritten(t, n)) || !eval.Plain(got) {
			t.Errorf("%s: Plain of very many answers otherwise", name)
		}
		a, _ := priced(nested(into, 20), 100000)
		b, few := priced(nested(into, 21), 100000)
		c, _ := priced(nested(into, 22), 100000)
		paid, r := priced(n, api.MaxFuel)
		want := b + (many-21)*(b-a)
		switch {
		case c-b != b-a || want > api.MaxFuel:
			if r.End == api.Spent && r.Left > 0 || c-b == b-a && r.End != api.Spent {
				t.Errorf("%s: %s", name, specimen.ToldEnd(r))
			}
		case paid != want || r.End != few.End || len(r.Outs) != len(few.Outs):
			t.Errorf("%s: %s, a price of %d, want %d", name, specimen.ToldEnd(r), paid, want)
		default:
			held++
		}
	}
	if held < 15 {
		t.Errorf("only %d are held", held)
	}
}

// Changes side by side, very many.
func TestWide(t *testing.T) {
	call, names := specimen.NamedPart(api.Call, "f"), []string(nil)
	for i := range 40000 {
		call.Kids = append(call.Kids, specimen.Part(api.Put+i%8, specimen.Part(api.Self), specimen.Constant(specimen.Num("2"))))
		names = append(names, "_")
	}
	n := specimen.Definition("f", names, specimen.NamedPart(api.Call, "_"), call)
	if got := plain(t, n); !specimen.EqualFilters(got, rewritten(t, n)) {
		t.Error("Plain of very many side by side answers otherwise")
	}
	if r, e := place.Run(n, specimen.Num("7"), 1000); specimen.ToldResult(r) != "7 done, left 974" || e != api.OK {
		t.Errorf("%s, %d", specimen.ToldResult(r), e)
	}
}

// Very many names that are taken, and very long ones.
func TestManyNames(t *testing.T) {
	const many = 2000
	n := put()
	for long := 1; long <= many; long++ {
		n = specimen.Part(api.Pipe, specimen.NamedPart(api.Var, strings.Repeat("_", long)), n)
	}
	if p, x := freshIn(t, n); p != strings.Repeat("_", many+1) || x != p+"_" {
		t.Errorf("%d and %d long", len(p), len(x))
	}
	long := strings.Repeat("_", 1<<20)
	if p, x := freshIn(t, specimen.Part(api.Pipe, specimen.NamedPart(api.Label, long, specimen.Part(api.Self)), put())); p != "_" || x != "__" {
		t.Errorf("%d and %d long", len(p), len(x))
	}
}

// Values nested as deep as may be, with changes at their ends.
func TestDeepValues(t *testing.T) {
	v := specimen.Num("7")
	for range deepest - 1 {
		v = specimen.List(v)
	}
	way := specimen.List(slices.Repeat([]api.Value{specimen.Num("0")}, deepest-1)...)
	for s, want := range map[string]int{
		".[0] as $w | .[1] | getpath($w) = 8 | getpath($w)":               api.Done,
		".[0] as $w | .[1] | getpath($w) |= . + 1 | getpath($w)":          api.Done,
		".[0] as $w | .[1] | getpath($w) += 1 | getpath($w)":              api.Done,
		".[1] | .[0][0][0] |= 8 | 8":                                      api.Done,
		"def f: if type == \"array\" then .[0] |= f else 8 end; .[1] | f": api.Spent,
	} {
		r, e := place.Run(parsed(t, s), specimen.List(way, v), api.MaxFuel)
		if e != api.OK || r.End != want || want == api.Done && (len(r.Outs) != 1 || json(r.Outs[0]) != "8") {
			t.Errorf("%s: %d outputs, %s, %d", s, len(r.Outs), specimen.ToldEnd(r), e)
		}
	}
}
