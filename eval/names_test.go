package eval_test

import (
	"fmt"
	"strings"
	"testing"
)

func TestP23_3Functions(t *testing.T) {
	checkLines(t, []line{
		{"def f: 1; f", "null", "1", "", 5},
		{"def f(g): g; f(1)", "null", "1", "", 6},
		{"def f($x): $x; f(1)", "null", "1", "", 6},
		{"def f($x): x; f(1)", "null", "1", "", 6},
		{"def f(g; $n): g, $n; f(1; 2, 3)", "null", "1 2 1 3", "", 0},
		{"def f($a; $b): [$a, $b]; f(1, 2; 3, 4)", "null", "[1,3] [1,4] [2,3] [2,4]", "", 0},
		{"def f($a; g; $b): [$a, g, $b]; f(1, 2; 5, 6; 3, 4)", "null", "[1,5,6,3] [1,5,6,4] [2,5,6,3] [2,5,6,4]", "", 0},
		{"def f(x): x as $x | x + $x; f(1, 2)", "null", "2 3 3 4", "", 0},
		{`def f($x): 1; f(empty)`, "null", "", "", 3},
		{`def f($a; $b): 1; f(error("a"); error("b"))`, "null", "", `"a"`, 4},
		{`def f($a; $b): 1; f(empty; error("b"))`, "null", "", "", 3},
		{`def f($a; $b): 1; f(1, 2; error("b"))`, "null", "", `"b"`, 0},
		{`def f(a; b): 1; f(error("a"); error("b"))`, "null", "1", "", 5},
		{`def f($x): error($x); f(1, 2)`, "null", "", "1", 0},
		{"def f($x): .; f(1, 2)", "7", "7 7", "", 0},
		{"def f(g): g; .[] | f(. + 1)", "[1,2]", "2 3", "", 0},
		{"def f(g): .[0] | g; f(. + 1)", "[1,2]", "2", "", 0},
		{"def f($x): .[0] | $x; f(.)", "[1,2]", "[1,2]", "", 0},
		{"def f(g): def h(k): k, g; h(g); f(1, 2)", "null", "1 2 1 2", "", 0},
		{"def f: def g: 3; g; f", "null", "3", "", 7},
	})
}

// What is seen anew hides what was seen ahead, of the same sort alone, and functions with as many arguments alone.
func TestP23_3Hidden(t *testing.T) {
	checkLines(t, []line{
		{"def f: 1; def f: 2; f", "null", "2", "", 6},
		{"def f: 1; def g: f; def f: 2; [f, g]", "null", "[2,1]", "", 0},
		{"def f: 1; def f: [f]?; .", "5", "5", "", 0},
		{"def f: 1; def f(x): 2; [f, f(.)]", "null", "[1,2]", "", 0},
		{"def f: 1; (def f: 2; f), f", "null", "2 1", "", 0},
		{"def f(g; g): g; f(1; 2)", "null", "2", "", 0},
		{"def f($g; g): g, $g; f(1; 2)", "null", "2 1", "", 0},
		{"def f(g; $g): g, $g; f(1; 2)", "null", "2 2", "", 0},
		{"def f($g; $g): g, $g; f(1, 2; 3)", "null", "3 3 3 3", "", 0},
		{"def f($a; b; $a): [$a, b, a]; f(1; 2; 3)", "null", "[3,2,3]", "", 0},
		{"def f(f): f; f(1)", "null", "1", "", 0},
		{"def f(f): f; def g(f): f(f); g(1), f(2)", "null", "1 2", "", 0},
		{"def f: 7; def g(f): f; g(1), f", "null", "1 7", "", 0},
		{"def f($f): $f + f; f(1)", "null", "2", "", 0},
		{"def f(g): def g: 5; g; f(1)", "null", "5", "", 0},
		{"def f(g): def g(x): x; g(g); f(1)", "null", "1", "", 0},
		{"def f(g): def g: g?; 3; f(1)", "null", "3", "", 0},
		{"def f($x): def x: 5; x, $x; f(1)", "null", "5 1", "", 0},
		{"def f($x): 2 as $x | x, $x; f(1)", "null", "1 2", "", 0},
		{"def x: 1; 2 as $x | label $x | x, $x, break $x", "null", "1 2", "", 0},
		{"def f: 1; def g: def f: 2; f; g, f", "null", "2 1", "", 0},
	})
}

func TestP23_3HiddenVariables(t *testing.T) {
	checkLines(t, []line{
		{"1 as $x | 2 as $x | $x", "null", "2", "", 0},
		{"1 as $x | (2 as $x | $x), $x", "null", "2 1", "", 0},
		{"1 as $x | $x as $x | $x", "null", "1", "", 0},
		{"1 as $x | ($x + 1) as $x | $x", "null", "2", "", 0},
		{"1 as $x | def f($x): $x; f(5), $x", "null", "5 1", "", 0},
		{"1 as $x | reduce 2 as $x ($x; [., $x])", "null", "[1,2]", "", 0},
		{"5 as $x | reduce $x as $x (0; . + $x)", "null", "5", "", 0},
		{"1 as $x | foreach 2 as $x ($x; [., $x]; [$x, .])", "null", "[2,[1,2]]", "", 0},
		{"5 as $x | (foreach $x as $x ($x; 7; $x)), $x", "null", "5 5", "", 0},
		{"1 as $x | (reduce 2 as $x (0; 3)), $x", "null", "3 1", "", 0},
		{"1 as $x | 2 as $y | [$x, $y]", "null", "[1,2]", "", 0},
		{"1 as $x | [2 as $x | 3 as $x | $x], $x", "null", "[3] 1", "", 0},
		{"(1, 2) as $x | def f: $x; 3 as $x | f, $x", "null", "1 3 2 3", "", 0},
	})
}

// What a name stands for is what it stood for where it is written.
func TestP23_3Closures(t *testing.T) {
	checkLines(t, []line{
		{"1 as $x | def f: $x; 2 as $x | f", "null", "1", "", 0},
		{"def f(g): 2 as $x | g; 1 as $x | f($x)", "null", "1", "", 0},
		{"def f(g): def h: 3; g; def h: 4; f(h)", "null", "4", "", 0},
		{"def f(g): def h: g; h; f(1)", "null", "1", "", 0},
		{"def f(g): def h(g): g; h(g); f(1)", "null", "1", "", 0},
		{"def f(g): def h(k): def g: 9; k; h(g); f(1)", "null", "1", "", 0},
		{"def f(g): g | g; f(. as $x | $x, $x + 1)", "1", "1 2 2 3", "", 0},
		{"def f(g): g | g; f(. as $x | (., 10) | [$x, .]) | length", "1", "2 2 2 2", "", 0},
		{"def f(g): [g, (label $l | g, break $l)]; (1, 2) as $x | f($x)", "null", "[1,1] [2,2]", "", 0},
		{"def f($n): def g: $n; if $n == 0 then [] else f($n - 1) + [g] end; f(3)", "null", "[1,2,3]", "", 0},
		{"def f(g): reduce (1, 2) as $x (0; . + g + $x); 10 as $x | f($x)", "null", "23", "", 0},
		{"def f(g): foreach (1, 2) as $x (0; . + $x; [g, $x]); 10 as $x | f($x, .)", "null", "[10,1,1] [10,3,2]", "", 0},
	})
}

func TestP23_3HiddenBuiltIn(t *testing.T) {
	checkLines(t, []line{
		{"def length: 7; length", "[1]", "7", "", 0},
		{"def length(x): 7; length, length(.)", "[1]", "1 7", "", 0},
		{"def empty: 1; [empty]", "null", "[1]", "", 0},
		{"def error: 1; error", "null", "1", "", 0},
		{"def error(x): 2; try error(1) catch 3, (try error catch 4)", "null", "2 4", "", 0},
		{"def range(a; b): 9; range(0; 1)", "null", "9", "", 0},
		{"def range($a; $b): [$a, $b]; range(0, 1; 2)", "null", "[0,2] [1,2]", "", 0},
		{"def f(empty): [empty]; f(1), [empty]", "null", "[1] []", "", 0},
		{"def f($length): length; f(9)", "[]", "9", "", 0},
		{"def f(error): error; f(1)", "null", "1", "", 0},
		{"def not: not?; 5", "null", "5", "", 0},
		{"def keys: [.[]]; keys", `{"a":1}`, "[1]", "", 0},
		{"def has(f): f; has(.a)", `{"a":1}`, "1", "", 0},
		{"def path: 1; def path(a; b): 2; [path, path(.; .), path(.a)]", "null", `[1,2,["a"]]`, "", 0},
		{"def getpath: 1; def setpath(a): 2; [getpath, setpath(.), getpath([])]", "5", "[1,2,5]", "", 0},
		{"def f(path): path; f(3)", "null", "3", "", 0},
		{"(def length: 7; length), length", "[1]", "7 1", "", 0},
	})
}

// Very many names around one another: each asks for what it should.
func TestP23_3ManyNames(t *testing.T) {
	var s, sum strings.Builder
	want := 0
	for i := range 60 {
		switch i % 4 {
		case 0:
			fmt.Fprintf(&s, "%d as $x%d | ", i, i)
			fmt.Fprintf(&sum, "$x%d, ", i)
		case 1:
			fmt.Fprintf(&s, "def f%d: %d; ", i, i)
			fmt.Fprintf(&sum, "f%d, ", i)
		case 2:
			fmt.Fprintf(&s, "label $l%d | ", i)
			fmt.Fprintf(&sum, "(label $l%d | %d, break $l%d), ", i, i, i)
		case 3:
			fmt.Fprintf(&s, "def g%d(a; $b; c): $b + a + c; ", i)
			fmt.Fprintf(&sum, "g%d(1; %d; 2), ", i, i-3)
		}
		want += i
	}
	checkLines(t, []line{
		{s.String() + "[" + sum.String() + "0] | add", "null", fmt.Sprint(want), "", 0},
		{s.String() + "[" + sum.String() + "break $l2, 0] | add", "null", "", "", 0},
	})
}
