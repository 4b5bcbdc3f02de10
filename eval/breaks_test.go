package eval_test

import (
	"strconv"
	"testing"

	"hallmark/api"
	"hallmark/eval"
	"hallmark/specimen"
)

func TestP23_3Breaks(t *testing.T) {
	checkLines(t, []line{
		{"label $l | 1, break $l, 2", "null", "1", "", 7},
		{"label $l | break $l", "null", "", "", 2},
		{"label $l | 1", "null", "1", "", 4},
		{"label $l | (1, 2) | ., break $l", "null", "1", "", 0},
		{"label $l | (1, break $l) | .", "null", "1", "", 0},
		{"(label $l | break $l, 1), 2", "null", "2", "", 0},
		{"label $l | try (1, break $l, 2) catch 3", "null", "1", "", 0},
		{`label $l | try error("x") catch (1, break $l, 2)`, "null", "1", "", 0},
		{"(label $l | (1, break $l)?), 5", "null", "1 5", "", 0},
		{"(label $l | (1, break $l, 6) // 2), 5", "null", "1 5", "", 0},
		{"(label $l | break $l // 2), 5", "null", "5", "", 0},
		{"(label $l | (null, break $l) // 2), 5", "null", "5", "", 0},
		{"(label $l | null // (3, break $l, 4)), 5", "null", "3 5", "", 0},
		{"(label $l | reduce (1, 2) as $x (0; break $l)), 5", "null", "5", "", 0},
		{"(label $l | reduce (1, break $l) as $x (0; .)), 5", "null", "5", "", 0},
		{"(label $l | reduce 1 as $x (0, break $l; .)), 5", "null", "5", "", 0},
		{"reduce (1, 2) as $x (0; label $l | (. + $x, break $l, 99))", "null", "3", "", 0},
		{"label $l | foreach (1, 2, 3) as $x (0; . + $x; ., if . > 2 then break $l else empty end)", "null", "1 3", "", 0},
		{"(label $l | foreach (1, 2) as $x (0; if $x == 2 then break $l else 7 end)), 5", "null", "7 5", "", 0},
		{"(label $l | foreach (1, break $l) as $x (0; $x)), 5", "null", "1 5", "", 0},
		{"(label $l | foreach 1 as $x ((0, break $l); .)), 5", "null", "0 5", "", 0},
		{"[label $l | 1, break $l], 2", "null", "[1] 2", "", 0},
		{"(label $l | [1, break $l]), 2", "null", "2", "", 0},
		{`(label $l | "\(1, break $l)"), 2`, "null", `"1" 2`, "", 0},
		{`(label $l | {"a": (1, break $l)}), 2`, "null", `{"a":1} 2`, "", 0},
		{`(label $l | {(break $l): 1}), 2`, "null", "2", "", 0},
		{"(label $l | 1 + (1, break $l, 3)), 5", "null", "2 5", "", 0},
		{"(label $l | if (true, break $l) then 1 else 2 end), 5", "null", "1 5", "", 0},
		{"(label $l | (1, break $l) as $x | $x), 5", "null", "1 5", "", 0},
		{"(label $l | (true, break $l) and true), 5", "null", "true 5", "", 0},
		{"(label $l | range(0; 2, break $l)), 5", "null", "0 1 5", "", 0},
		{"(label $l | error(break $l)), 5", "null", "5", "", 0},
		{"(label $l | path(.a, break $l, .b)), 5", "null", `["a"] 5`, "", 0},
		{"(label $l | has(0, break $l)), 5", "[1]", "true 5", "", 0},
	})
}

// A Break leaves the visit of its label that it lies in, however often the label's part is visited, and whichever labels lie between.
func TestP23_3RightLabel(t *testing.T) {
	checkLines(t, []line{
		{"label $a | (label $b | 1, break $a), 2", "null", "1", "", 0},
		{"(label $a | (label $b | 1, break $b, 3), 2), 4", "null", "1 2 4", "", 0},
		{"label $l | 1, (label $l | 2, break $l, 3), 4, break $l, 5", "null", "1 2 4", "", 0},
		{"(1, 2) | label $l | ., (if . == 1 then break $l else empty end), 10", "null", "1 2 10", "", 0},
		{"def f: label $l | 1, break $l, 2; f, f", "null", "1 1", "", 0},
		{"def f(g): 1, g, 2; label $l | f(break $l)", "null", "1", "", 0},
		{"def f(g): label $l | 1, g, 2; label $l | f(break $l), 3", "null", "1", "", 0},
		{"def f(g): (label $l | 1, g, 2), 3; (label $l | f(break $l), 4), 5", "null", "1 5", "", 0},
		{"def f(g; c): label $l | if c then f(break $l; false) else (g, 1) end, 2; f(empty; true)", "null", "", "", 0},
		{`def f($n; g): label $l | ($n, if $n == 0 then g else f($n - 1; break $l) end, "after\($n)"); [f(2; empty)]`, "null", `[2,1,0,"after2"]`, "", 0},
		{`def f($n; g): label $l | ($n, if $n == 0 then g else f($n - 1; g) end, "after\($n)"); [label $m | f(2; break $m)], 7`, "null", "[2,1,0] 7", "", 0},
		{"def f(g): g | g; label $l | f(label $k | ., break $k, break $l)", "3", "3", "", 0},
		{"[label $l | (1, 2) as $x | label $k | $x, if $x == 1 then break $k else break $l end]", "null", "[1,2]", "", 0},
		{"first(range(0; 9)), first(first(1, 2), 3)", "null", "0 1", "", 0},
		{"[limit(3; range(0; 9))], [limit(0; 1, 2)], [limit(1; limit(2; 5, 6, 7))]", "null", "[0,1,2] [] [5]", "", 0},
		{"[.[] | first(.[] | select(. > 1))]", "[[1,2,3],[0],[4,5]]", "[2,4]", "", 0},
		{"isempty(empty), isempty(1, error)", "null", "true false", "", 0},
		{"label $l | def f: break $l; (1, f, 2)", "null", "1", "", 0},
		{"label $l | try (label $k | error(1, break $l)) catch (., break $l, 5)", "null", "1", "", 0},
		{"label $l | (label $k | 1, 2) | ., break $l", "null", "1", "", 0},
		{"(label $l | (label $k | 1, 2) | label $m | ., break $m), 5", "null", "1 2 5", "", 0},
	})
}

// spends holds a run to its outputs, and to being Spent with nothing left, with each of these fuels.
func spends(t *testing.T, filter, outs string, fuels ...int) {
	t.Helper()
	n := parsed(t, filter)
	for _, fuel := range fuels {
		r, e := eval.Run(n, api.Value{}, fuel)
		if got := toldRun(r.Outs, r); got != outs+" spent, left 0" || e != api.OK || !specimen.Alike(r.Fault, api.Value{}) {
			t.Errorf("%s with %d: %s, %d", filter, fuel, got, e)
		}
	}
}

// A run that can't pay is over, whatever stands around; so is one where arith or prim answer neither a value nor a fault.
func TestP23_3Spent(t *testing.T) {
	heavy := `("a" * 1048576)`
	for _, fuel := range []int{100, 1000, 1048576} {
		spends(t, heavy, "", fuel)
		spends(t, "try "+heavy+" catch 1", "", fuel)
		spends(t, heavy+" // 1", "", fuel)
		spends(t, "(1, "+heavy+") // 3", "1", fuel)
		spends(t, "[1, "+heavy+"]", "", fuel)
		spends(t, "label $l | 1, "+heavy+", break $l", "1", fuel)
		spends(t, "label $l | 1, ("+heavy+" | break $l, 2)?", "1", fuel)
		spends(t, "reduce (1, 2) as $x ("+heavy+"; 1)", "", fuel)
		spends(t, "2, path(.["+heavy+"])", "2", fuel)
		spends(t, "try error("+heavy+") catch 2", "", fuel)
		spends(t, "def f: f; try f catch 1", "", fuel)
		spends(t, "def f: f; 1, (f // 2)", "1", fuel)
	}
	spends(t, `1, ("a" * 99999999999999999999)`, "1", 10, 1048576)
	spends(t, `("a" * 1000000) | [1, tojson], 1 | length`, "", 1048576)
	checkLines(t, []line{{`"" * 99999999999999999999`, "null", `""`, "", 0}})
}

// What is just not too heavy is made, if the fuel is enough for it.
func TestP23_3Heaviest(t *testing.T) {
	n := parsed(t, `("a" * 1048500) | utf8bytelength`)
	r, _ := eval.Run(n, api.Value{}, api.MaxFuel)
	if len(r.Outs) != 1 || r.Outs[0].Num != "1048500" || r.Left != 1048576-1048501-5-2*8 {
		t.Errorf("it is %s", toldRun(r.Outs, r))
	}
	price := 1048576 - r.Left
	if r, _ = eval.Run(n, api.Value{}, price); r.End != api.Done || r.Left != 0 {
		t.Errorf("with %s it is %s", strconv.Itoa(price), toldRun(r.Outs, r))
	}
	spends(t, `("a" * 1048500) | utf8bytelength`, "", price-1, price-8, price-9, price-16, price-17, 1048500)
}
