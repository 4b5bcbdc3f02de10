package eval_test

import (
	"math/rand"
	"slices"
	"strings"
	"testing"

	"hallmark/api"
	"hallmark/eval"
	"hallmark/library"
	"hallmark/show"
	"hallmark/specimen"
	"hallmark/syntax"
	"hallmark/writer"
)

func pickOf(seed int64) specimen.Source { return rand.New(rand.NewSource(seed)).Intn }

// parsed is the filter of a text, with what it needs of the library in front.
func parsed(t *testing.T, s string) api.Node {
	t.Helper()
	n, e, at := syntax.Parse(s)
	if e != api.OK {
		t.Fatalf("Parse(%.300q): %d at %d", s, e, at)
	}
	if n, e, at = library.With(n); e != api.OK {
		t.Fatalf("With(%.300q): %d at %d", s, e, at)
	}
	return n
}

// json is a value as a text.
func json(v api.Value) string {
	s, e := writer.Text(v)
	if e != api.OK {
		return "no value"
	}
	return s
}

// written is a filter as a text.
func written(n api.Node) string {
	s, e := show.Text(n)
	if e != api.OK {
		return specimen.ToldFilter(n, false)
	}
	return s
}

// line is a filter with an input, and what its run comes to.
type line struct {
	filter, in string
	outs       string // as documents
	fault      string // as a document; empty, if the run is Done
	price      int    // of the whole run; 0: it isn't told
}

// far is as much as lines cost at most.
const far = 5000

// checkLines holds runs to what stands here, and to the words.
func checkLines(t *testing.T, lines []line) {
	t.Helper()
	for _, x := range lines {
		n, v := parsed(t, x.filter), specimen.JSON(x.in)
		o := checkWords(t, n, v, far)
		r, e := eval.Run(n, v, far)
		outs, fault := "", ""
		for _, v := range r.Outs {
			outs += " " + json(v)
		}
		if r.End == api.Failed {
			fault = json(r.Fault)
		}
		if outs = strings.TrimPrefix(outs, " "); outs != x.outs || fault != x.fault || r.End == api.Spent || e != api.OK || o.end == api.Spent {
			t.Errorf("Run(%s) on %s = %s, fault %s, %d, %d, want %s, fault %s", x.filter, x.in, outs, fault, r.End, e, x.outs, x.fault)
		}
		if price := far - r.Left; x.price > 0 && price != x.price {
			t.Errorf("Run(%s) on %s costs %d, want %d", x.filter, x.in, price, x.price)
		}
	}
}

func TestExamples(t *testing.T) {
	checkLines(t, []line{
		{".", "5", "5", "", 3},
		{"1, 2", "null", "1 2", "", 7},
		{"[.[] + 1]", "[1,2]", "[2,3]", "", 19},
		{`{"a": (1, 2)}`, "null", `{"a":1} {"a":2}`, "", 0},
		{"(1, 2) + (10, 20)", "null", "11 12 21 22", "", 0},
		{".a", "5", "", `"index"`, 0},
		{`1, error("x"), 2`, "null", "1", `"x"`, 0},
		{"[.[] as $x | $x * 2]", "[1]", "[2]", "", 0},
		{`try error("x") catch .`, "null", `"x"`, "", 0},
		{`(1, error("x")) // 2`, "null", "1", "", 0},
		{"(null, false) // (3, 4)", "null", "3 4", "", 0},
		{"reduce .[] as $x (0; . + $x)", "[1,2,3]", "6", "", 0},
		{"foreach .[] as $x (0; . + $x)", "[1,2,3]", "1 3 6", "", 0},
		{"reduce empty as $x (empty; 1)", "5", "null", "", 0},
		{"def f(g; $n): g, $n; f(1; 2, 3)", "null", "1 2 1 3", "", 0},
		{"label $l | 1, break $l, 2", "null", "1", "", 0},
		{"range(0, 1; 3, 4)", "null", "0 1 2 1 2 0 1 2 3 1 2 3", "", 0},
		{"path(.a[0], .b)", "null", `["a",0] ["b"]`, "", 0},
		{"path(.[] | select(. > 1))", "[1,2,3]", "[1] [2]", "", 0},
		{"path(1)", "null", "", `"path"`, 0},
	})
	for _, x := range []struct {
		filter, in string
		fuel       int
	}{{"def f: f; f", "null", 1048576}, {`"a" * 99999999`, "null", 1048576}, {".", "5", 2}, {`"a" * 99999999`, "null", 100}} {
		r, e := eval.Run(parsed(t, x.filter), specimen.JSON(x.in), x.fuel)
		if len(r.Outs) > 0 || r.End != api.Spent || r.Left != 0 || e != api.OK {
			t.Errorf("Run(%s) on %s with %d = %s", x.filter, x.in, x.fuel, toldRun(r.Outs, r))
		}
	}
}

// Each Op that is a change, at the top and deep inside, of filters that are well shaped and of those that aren't.
func TestP23_1Plain(t *testing.T) {
	pick := pickOf(2311)
	var all []api.Node
	for range 300 {
		n := specimen.ClosedFilter(pick, 5)
		all = append(all, n, specimen.DrawnFilter(pick, 5), specimen.SpoiltFilter(n, pick))
	}
	all = append(all, specimen.FilterForms()...)
	all = append(all, specimen.MisshapenFilters()...)
	seen := map[bool]int{}
	for _, n := range all {
		plain(t, n)
		seen[eval.Plain(n)]++
		for _, around := range []api.Node{{Op: api.Self, Kids: []api.Node{n}}, {Op: -5, Kids: []api.Node{{}, {Op: 99}, n}}, specimen.Definition("f", nil, n, api.Node{}), specimen.Definition("f", nil, api.Node{}, n)} {
			plain(t, around)
		}
	}
	if seen[true] < 500 || seen[false] < 200 {
		t.Errorf("plain: %v", seen)
	}
}

func TestP23_1Changes(t *testing.T) {
	self := specimen.Part(api.Self)
	for op := api.None - 3; op <= api.ElseTo+3; op++ {
		for many := range 4 {
			n := specimen.Part(op, slices.Repeat([]api.Node{self}, many)...)
			if want := op < 36 || op > 43; eval.Plain(n) != want {
				t.Errorf("Plain of Op %d is %v", op, !want)
			}
			for _, around := range specimen.AroundFilter(n) {
				plain(t, around)
			}
		}
	}
	n := specimen.Part(api.Update, self, self)
	for range 1 << 16 {
		n = specimen.Part(api.Pipe, self, n)
	}
	if eval.Plain(n) {
		t.Error("a change far inside isn't seen")
	}
}

// plain holds Plain to the Ops of all parts.
func plain(t *testing.T, n api.Node) {
	t.Helper()
	if got := eval.Plain(n); got == strings.ContainsAny(opsOf(n), "=") {
		t.Errorf("Plain(%.500s) = %v", specimen.ToldFilter(n, false), got)
	}
}

// opsOf has a mark for each part: = for one that is a change.
func opsOf(n api.Node) string {
	out := "."
	switch n.Op {
	case api.Put, api.Update, api.AddTo, api.SubTo, api.MulTo, api.DivTo, api.ModTo, api.ElseTo:
		out = "="
	}
	for _, kid := range n.Kids {
		out += opsOf(kid)
	}
	return out
}
