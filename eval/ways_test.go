package eval_test

import (
	"strconv"
	"strings"
	"testing"

	"hallmark/api"
	"hallmark/eval"
	"hallmark/specimen"
)

// checkWays holds Paths of filters to what stands here (ways as arrays, in the place of outputs) and Run of path of them likewise, and both to the words.
func checkWays(t *testing.T, lines []line) {
	t.Helper()
	for _, x := range lines {
		n, v := parsed(t, x.filter), specimen.JSON(x.in)
		o := checkWords(t, n, v, far)
		ways, r, e := eval.Paths(n, v, far)
		outs, fault := "", ""
		for _, way := range ways {
			outs += " " + json(specimen.List(way...))
		}
		if r.End == api.Failed {
			fault = json(r.Fault)
		}
		if outs = strings.TrimPrefix(outs, " "); outs != x.outs || fault != x.fault || r.End == api.Spent || e != api.OK || o.end == api.Spent {
			t.Errorf("Paths(%s) on %s = %s, fault %s, %d, %d, want %s, fault %s", x.filter, x.in, outs, fault, r.End, e, x.outs, x.fault)
		}
		if price := far - r.Left; x.price > 0 && price != x.price {
			t.Errorf("Paths(%s) on %s costs %d, want %d", x.filter, x.in, price, x.price)
		}
		checkWords(t, specimen.NamedPart(api.Call, "path", n), v, far)
	}
}

func TestP23_5Ways(t *testing.T) {
	checkWays(t, []line{
		{".", "5", "[]", "", 2},
		{".a", "null", `["a"]`, "", 6},
		{".a", `{"a":[1]}`, `["a"]`, "", 6},
		{".a, .[0]", "null", `["a"] [0]`, "", 0},
		{".a[0].b", "null", `["a",0,"b"]`, "", 0},
		{".[-1]", "[1,2]", "[-1]", "", 9},
		{".[5]", "[1]", "[5]", "", 0},
		{".a", "5", "", `"index"`, 3},
		{".[null]", "null", "", `"index"`, 0},
		{"(.a, .b)[0, 1]", "null", `["a",0] ["a",1] ["b",0] ["b",1]`, "", 0},
		{".[.[]]", "[1,0]", "[1] [0]", "", 0},
		{".a[.b]", `{"a":{"x":1},"b":"x"}`, `["a","x"]`, "", 0},
		{`.[error("x")]`, "null", "", `"x"`, 0},
		{".[]", "[1,[2]]", "[0] [1]", "", 8},
		{".[]", `{"b":1,"a":2}`, `["a"] ["b"]`, "", 8},
		{".[]", "5", "", `"each"`, 2},
		{".[][]", `[[1,2],{"k":3}]`, `[0,0] [0,1] [1,"k"]`, "", 0},
		{".[] | .a", `[{"a":1},null]`, `[0,"a"] [1,"a"]`, "", 0},
		{".a | .b | .[0]", "null", `["a","b",0]`, "", 0},
		{"(.a, .b) | ., .c", "null", `["a"] ["a","c"] ["b"] ["b","c"]`, "", 0},
		{"if .a then .b else .c end", `{"a":1}`, `["b"]`, "", 0},
		{"if (true, false) then .b else .c end", "null", `["b"] ["c"]`, "", 0},
		{"if . then .b end", "null", "[]", "", 0},
		{".[] as $x | .[$x]", "[1,0]", "[1] [0]", "", 0},
		{"1 as $x | .a", "null", `["a"]`, "", 0},
		{".a // .b", `{"a":false,"b":1}`, `["b"]`, "", 0},
		{"(.a, .b) // .c", `{"a":null,"b":1}`, `["b"]`, "", 0},
		{".a // .b", `{"a":1}`, `["a"]`, "", 0},
		{`error("x") // .b`, "null", `["b"]`, "", 0},
		{`(.a, error("x")) // .b`, `{"a":1}`, `["a"]`, "", 0},
		{"def f: .a; f | f", "null", `["a","a"]`, "", 0},
		{"def f(g): .a | g; f(.b)", "null", `["a","b"]`, "", 0},
		{"def f($k): .[$k]; f(0, 1)", "null", "[0] [1]", "", 0},
		{"def r: ., (.[]? | r); r", `[[1],{"a":2}]`, `[] [0] [0,0] [1] [1,"a"]`, "", 0},
		{"label $l | .a, break $l, .b", "null", `["a"]`, "", 0},
		{"empty", "null", "", "", 1},
		{"error", "7", "", "7", 1},
		{`.a, error("x")`, "null", `["a"]`, `"x"`, 0},
		{`error(1, 2)`, "null", "", "1", 0},
		{`error(empty), .a`, "null", `["a"]`, "", 0},
		{"select(.a) | .b", `{"a":1}`, `["b"]`, "", 0},
		{"first(.[] | select(. > 1))", "[1,2,3]", "[1]", "", 0},
		{"..", `{"a":[1]}`, `[] ["a"] ["a",0]`, "", 0},
		{`.["é", ""]`, "null", `["é"] [""]`, "", 0},
		{".[99999999999999999999]", "[]", "[99999999999999999999]", "", 0},
	})
}

func TestP23_5Try(t *testing.T) {
	checkWays(t, []line{
		{".a?", "5", "", "", 4},
		{"(.a, .b[0], .c)?", `{"a":1,"b":2}`, `["a"]`, "", 0},
		{"try .a", "null", `["a"]`, "", 0},
		{"try .a catch .b", "null", `["a"]`, "", 7},
		{`try error("x") catch .`, "null", "", `"path"`, 3},
		{`try (.a, error("x")) catch .b`, "null", `["a"]`, `"path"`, 0},
		{`try (try error("x") catch .) catch .`, "null", "", `"path"`, 4},
		{`(try error("x") catch .)?, .a`, "null", `["a"]`, "", 0},
		{`(try error("x") catch .) // .b`, "null", `["b"]`, "", 0},
		{`(try .a catch .b) | error("y")`, "null", "", `"y"`, 0},
		{`(.a?) | error("y")`, "null", "", `"y"`, 0},
		{"label $l | try (.a, break $l) catch .b", "null", `["a"]`, "", 0},
	})
}

// Parts that name no places: what is visited costs, what lies inside doesn't.
func TestP23_5Path(t *testing.T) {
	for _, s := range []string{"1", "null", `"a"`, `"a\(.b)"`, "[]", "[.a]", "{}", "{a: .b}", ".[0:1]", ".a[1:]", "-.", "-.a", ".a + .b", ". - .", ". * .", ". / .", ". % .", ".a == .b", ". != .", ". < .", ". <= .", ". > .", ". >= .", ".a and .b", ".a or .b", "reduce .a as $x (.; .)", "foreach .a as $x (.; .)", "foreach .a as $x (.; .; .)", "range(.a; .b)", "path(.a)", "length", "has(.a)", "setpath(.a; .b)", "delpaths(.a)", "not", "tojson", "_sort_by(.)"} {
		checkWays(t, []line{{s, "null", "", `"path"`, 1}, {".a | " + s, "null", "", `"path"`, 5}, {".a, " + s + ", .b", "null", `["a"]`, `"path"`, 0}, {"(" + s + ")?, .b", "null", `["b"]`, "", 0}})
	}
	checkWays(t, []line{
		{"1 as $x | $x", "null", "", `"path"`, 3},
		{"def f($x): $x; f(1)", "null", "", `"path"`, 4},
		{"def f($x): x; f(1)", "null", "", `"path"`, 4},
		{"def f($x): x; f(.a)", "null", "", `"path"`, 6},
		{"def f($x): .a, x; f(1)", "null", `["a"]`, `"path"`, 0},
		{"def f(x): x; f(1)", "null", "", `"path"`, 4},
		{"def f: 1; f", "null", "", `"path"`, 3},
	})
}

// A Call of a parameter that is a value costs what the call does, ahead of failing.
func TestP23_5CallsOfValues(t *testing.T) {
	for _, many := range []int{1, 15, 16, 17, 31, 32, 33} {
		s := "def g0($x): x; "
		for i := range many {
			s += "def g" + strconv.Itoa(i+1) + "($x): g" + strconv.Itoa(i) + "($x); "
		}
		checkWays(t, []line{{s + "g" + strconv.Itoa(many) + "(1)", "null", "", `"path"`, many + 1 + many + 1 + many + 1 + 1 + upTo(many+2)}})
	}
}

func TestP23_5Getpath(t *testing.T) {
	checkWays(t, []line{
		{`getpath(["a"])`, "null", `["a"]`, "", 9},
		{`getpath([])`, "5", "[]", "", 4},
		{`getpath(["a", 0], ["b"])`, `{"a":[1]}`, `["a",0] ["b"]`, "", 0},
		{`.x | getpath(["a", -1]) | .y`, "null", `["x","a",-1,"y"]`, "", 0},
		{`getpath("a")`, "null", "", `"getpath"`, 2},
		{`getpath(null)`, "null", "", `"getpath"`, 2},
		{`getpath({})`, "null", "", `"getpath"`, 0},
		{`getpath(["a"])`, "5", "", `"getpath"`, 0},
		{`getpath(["a", "b"])`, `{"a":5}`, "", `"getpath"`, 0},
		{`getpath([null])`, "null", "", `"getpath"`, 0},
		{`getpath([["a"]])`, "null", "", `"getpath"`, 0},
		{`getpath(["a", 5, "c"])`, `{"a":[1]}`, `["a",5,"c"]`, "", 0},
		{`getpath(["a"], 1)`, "null", `["a"]`, `"getpath"`, 0},
		{`getpath(error("x"))`, "null", "", `"x"`, 3},
		{`getpath(empty)`, "null", "", "", 2},
		{`getpath(["b"]) // getpath(["a"])`, `{"b":null}`, `["a"]`, "", 0},
		{`getpath(paths)`, `{"a":[1]}`, `["a"] ["a",0]`, "", 0},
		{`.a[0] | getpath([])`, "null", `["a",0]`, "", 0},
	})
}

// In way mode conditions, sources, keys and what is handed over for a name with $ are visited as ever.
func TestP23_5Mixed(t *testing.T) {
	checkWays(t, []line{
		{"if 1 + 1 == 2 then .a else .b end", "null", `["a"]`, "", 0},
		{"[1, 2] as $x | .[$x[]]", "null", "[1] [2]", "", 0},
		{"def f($x): .[$x]; f(1 + 1)", "null", "[2]", "", 0},
		{"def f(g): if g then .a else .b end; f(1 == 1)", "null", `["a"]`, "", 0},
		{"def f(g): g as $x | .[$x]; f(length)", "[7]", "[1]", "", 0},
		{"def f(g): g, .[g]; f(0)", "[7]", "", `"path"`, 0},
		{"def f(g): (g?), .[g]; f(0)", "[7]", "[0]", "", 0},
		{".[length - 1]", "[7,8]", "[1]", "", 0},
		{".[path(.a)[0]]", "null", `["a"]`, "", 0},
		{"getpath(path(.a.b))", "null", `["a","b"]`, "", 0},
		{".a[reduce (1, 2) as $x (0; . + $x)]", "null", `["a",3]`, "", 0},
		{"error([.a])", `{"a":1}`, "", "[1]", 0},
		{"error(path(.a))", "null", "", `["a"]`, 0},
	})
}

// The ways that are given are paid for by their weight.
func TestP23_5Paid(t *testing.T) {
	n, v := parsed(t, `.abc, .[12], getpath(["é", -345])`), api.Value{}
	for fuel, want := range map[int]string{0: " spent, left 0", 9: " spent, left 0", 10: `["abc"] spent, left 0`, 16: `["abc"] spent, left 0`, 17: `["abc"] [12] spent, left 0`} {
		if got := gotRun(n, v, true, fuel); got != want {
			t.Errorf("with %d: %s, want %s", fuel, got, want)
		}
	}
	checkWays(t, []line{
		{".abc", "null", `["abc"]`, "", 3 + 5},
		{".[12]", "null", "[12]", "", 3 + 4},
		{`getpath(["é", 345])`, "null", `["é",345]`, "", 5 + 8 + 8},
	})
}
