package eval_test

import "testing"

func TestP23_3Values(t *testing.T) {
	checkLines(t, []line{
		{".", "5", "5", "", 3},
		{".", "[1,[2]]", "[1,[2]]", "", 7},
		{"null", "5", "null", "", 2},
		{"true, false", "5", "true false", "", 5},
		{"12", "5", "12", "", 4},
		{`"ab"`, "5", `"ab"`, "", 4},
		{`"é"`, "5", `"é"`, "", 4},
		{"1 as $x | $x", "5", "1", "", 5},
		{"123456789012345678901234567890", "5", "123456789012345678901234567890", "", 32},
	})
}

func TestP23_3Join(t *testing.T) {
	checkLines(t, []line{
		{`"a\(1)"`, "null", `"a1"`, "", 10},
		{`"p\(1, 2)q\(3)"`, "null", `"p1q3" "p2q3"`, "", 31},
		{`"\(1, 2)-\(3, 4)"`, "null", `"1-3" "1-4" "2-3" "2-4"`, "", 0},
		{`"\("a", error("x"))\(1)"`, "null", `"a1"`, `"x"`, 0},
		{`"\(1)\(error("x"))\(error("y"))"`, "null", "", `"x"`, 0},
		{`"\(empty)\(error("x"))"`, "null", "", "", 3},
		{`"\(null)\(.a)\(.b)\(true)"`, `{"a":[1,"é",{"k":-1}],"b":"\""}`, `"null[1,\"é\",{\"k\":-1}]\"true"`, "", 0},
		{`"\(.)"`, `"\n"`, `"\n"`, "", 8},
	})
}

func TestP23_3List(t *testing.T) {
	checkLines(t, []line{
		{"[]", "null", "[]", "", 3},
		{"[1, 2]", "null", "[1,2]", "", 14},
		{"[empty]", "null", "[]", "", 4},
		{`[1, error("x")]`, "null", "", `"x"`, 5},
		{"[.[]]", `{"b":1,"a":[2]}`, "[[2],1]", "", 15},
		{"[[], [[]], .]", "7", "[[],[[]],7]", "", 0},
		{"[1], [2, 3]", "null", "[1] [2,3]", "", 0},
		{"[.[] | ., .]", "[1,2]", "[1,1,2,2]", "", 0},
	})
}

func TestP23_3Record(t *testing.T) {
	checkLines(t, []line{
		{"{}", "null", "{}", "", 3},
		{`{"a": (1, 2), "b": (3, 4)}`, "null", `{"a":1,"b":3} {"a":1,"b":4} {"a":2,"b":3} {"a":2,"b":4}`, "", 85},
		{`{("a", "b"): (1, 2)}`, "null", `{"a":1} {"a":2} {"b":1} {"b":2}`, "", 0},
		{`{("a", 1, "b"): 2}`, "null", `{"a":2}`, `"key"`, 0},
		{`{(1): error("x")}`, "null", "", `"key"`, 2},
		{`{(null): 1}`, "null", "", `"key"`, 2},
		{`{"a": error("x"), (1): 2}`, "null", "", `"x"`, 0},
		{`{"a": (1, error("x")), (1): 2}`, "null", "", `"key"`, 0},
		{`{("a", "b"): empty}`, "null", "", "", 6},
		{`{(empty): error("x")}`, "null", "", "", 2},
		{`{"a": 1, "a": 2}`, "null", `{"a":2}`, "", 15},
		{`{"b": 1, "a": 2, "b": 3, "": 4, "a": [5]}`, "null", `{"":4,"a":[5],"b":3}`, "", 0},
		{`{a, "b": 1, ("c", "d"): .a}`, `{"a":7}`, `{"a":7,"b":1,"c":7} {"a":7,"b":1,"d":7}`, "", 0},
		{`{"p\(1, 2)": .}`, "3", `{"p1":3} {"p2":3}`, "", 0},
		{`{"é": 1}`, "null", `{"é":1}`, "", 15},
	})
}

func TestP23_3Index(t *testing.T) {
	checkLines(t, []line{
		{".a", `{"a":[1]}`, "[1]", "", 6},
		{"(.a, .b)[0, 1]", `{"a":[1,2],"b":[3,4]}`, "1 2 3 4", "", 22},
		{".a", "null", "null", "", 4},
		{".b", `{"a":1}`, "null", "", 4},
		{".[-1]", "[1,2]", "2", "", 8},
		{".[-2], .[-3], .[1], .[2]", "[1,2]", "1 null 2 null", "", 0},
		{".[99999999999999999999], .[-99999999999999999999]", "[1,2]", "null null", "", 0},
		{".[9223372036854775807], .[-9223372036854775808]", "[1,2]", "null null", "", 0},
		{".[0]", "null", "null", "", 4},
		{".[0]", `{"0":1}`, "", `"index"`, 3},
		{".a", "[1]", "", `"index"`, 3},
		{".a", "5", "", `"index"`, 3},
		{`.["a", 0, "b"]`, `{"a":1}`, "1", `"index"`, 0},
		{".[null]", "null", "", `"index"`, 3},
		{".[true]", "[1]", "", `"index"`, 3},
		{".[[0]]", "[1]", "", `"index"`, 0},
		{".[{}]", "null", "", `"index"`, 0},
		{`.[""], .["é"]`, `{"":1,"é":2}`, "1 2", "", 0},
		{`(error("a"))[error("b")]`, "null", "", `"a"`, 3},
		{`(empty)[error("b")]`, "null", "", "", 2},
		{`.[empty]`, "5", "", "", 3},
		{`.[error("b")]`, "5", "", `"b"`, 4},
		{".a.b[0].c", `{"a":{"b":[{"c":7}]}}`, "7", "", 0},
	})
}

func TestP23_3Slice(t *testing.T) {
	checkLines(t, []line{
		{".[0:1]", "[1,2]", "[1]", "", 10},
		{".[0:1]", "null", "null", "", 5},
		{".[:1]", "null", "null", "", 4},
		{".[1:]", `"ab"`, `"b"`, "", 7},
		{".[(0, 1):(2, 3)]", "[1,2,3]", "[1,2] [1,2,3] [2] [2,3]", "", 0},
		{"(., .a)[(0, 1):]", "null", "null null null null", "", 0},
		{`(., "ab")[(0, 1):]`, "[1,2]", `[1,2] [2] "ab" "b"`, "", 0},
		{"[.[1:], .[:-1], .[1:2], .[null:null], .[2:1]]", "[1,2,3]", "[[2,3],[1,2],[2],[1,2,3],[]]", "", 0},
		{`.["a":]`, "[]", "", `"slice"`, 3},
		{".[0:]", "{}", "", `"slice"`, 3},
		{".[0:]", "5", "", `"slice"`, 3},
		{`.[empty:error("x")]`, "null", "", "", 3},
		{`.[error("x"):error("y")]`, "null", "", `"x"`, 0},
		{`.[:error("y")]`, "null", "", `"y"`, 0},
		{`(error("z"))[error("x"):]`, "null", "", `"z"`, 0},
	})
}

func TestP23_3EachNeg(t *testing.T) {
	checkLines(t, []line{
		{".[]", "[1,2]", "1 2", "", 6},
		{".[]", `{"b":1,"a":2}`, "2 1", "", 6},
		{".[]", "[]", "", "", 2},
		{".[]", "{}", "", "", 2},
		{".[]", "null", "", `"each"`, 2},
		{".[]", `"ab"`, "", `"each"`, 2},
		{"(., 5)[]", "[1,[2]]", "1 [2]", `"each"`, 0},
		{".[][]", "[[1,2],[],[3]]", "1 2 3", "", 0},
		{`.[] | if . == 2 then error("x") else . end`, "[1,2,3]", "1", `"x"`, 0},
		{"-(1, 2)", "null", "-1 -2", "", 12},
		{"-.", "-5", "5", "", 6},
		{`-"a"`, "null", "", `"neg"`, 2},
		{`-(1, null, 2)`, "null", "-1", `"neg"`, 0},
	})
}

func TestP23_3PipeBoth(t *testing.T) {
	checkLines(t, []line{
		{"(1, 2) | (., 10)", "null", "1 10 2 10", "", 20},
		{"1, 2, null", "null", "1 2 null", "", 10},
		{"1, (2, 3)", "null", "1 2 3", "", 0},
		{`empty | error("x")`, "null", "", "", 2},
		{`1 | error`, "null", "", "1", 0},
		{`(1, 2, error("y")) | (., error("x"))`, "null", "1", `"x"`, 0},
		{`(error("x"), 1), 2`, "null", "", `"x"`, 0},
		{`1, empty, 2`, "null", "1 2", "", 0},
		{`.a | .b | .c`, `{"a":{"b":{"c":1}}}`, "1", "", 0},
	})
}

func TestP23_3Reckon(t *testing.T) {
	checkLines(t, []line{
		{"(1, 2) + (10, 20)", "null", "11 12 21 22", "", 34},
		{"(5, 6) - (1, 2)", "null", "4 5 3 4", "", 0},
		{"(1, 2) * (3, 5)", "null", "3 6 5 10", "", 0},
		{"(7, 9) / (2, 4)", "null", "3 4 1 2", "", 0},
		{"(7, 9) % (2, 4)", "null", "1 1 3 1", "", 0},
		{`1 + "a"`, "null", "", `"add"`, 3},
		{"{} - 1", "null", "", `"sub"`, 0},
		{"[] * 1", "null", "", `"mul"`, 0},
		{"1 / 0", "null", "", `"div by 0"`, 3},
		{`"a" / 1`, "null", "", `"div"`, 3},
		{"1 % 0", "null", "", `"mod by 0"`, 3},
		{`"a" % 1`, "null", "", `"mod"`, 3},
		{`error("a") + error("b")`, "null", "", `"b"`, 3},
		{`empty + error("b")`, "null", "", `"b"`, 3},
		{`error("a") + empty`, "null", "", "", 2},
		{`(1, error("a")) + (10, error("b"))`, "null", "11", `"a"`, 0},
		{"null + 7, 7 + null", "null", "7 7", "", 0},
		{`"ab" * 3`, "null", `"ababab"`, "", 17},
		{`"ab" * 0`, "null", "null", "", 5},
		{`{"a":1} + {"b":2}`, "null", `{"a":1,"b":2}`, "", 0},
		{"[1, 2, 1] - [1]", "null", "[2]", "", 0},
		{`. / ","`, `"a,b"`, `["a","b"]`, "", 0},
	})
}

func TestP23_3Compare(t *testing.T) {
	checkLines(t, []line{
		{"(1, 2) < (2, 3)", "null", "true false true true", "", 14},
		{"1 == 1", "null", "true", "", 4},
		{"(1, 2, 3) == 2, ((1, 2, 3) != 2)", "null", "false true false true false true", "", 0},
		{"(1, 2, 3) <= 2, ((1, 2, 3) > 2)", "null", "true true false false false true", "", 0},
		{"(1, 2, 3) >= 2, ((1, 2, 3) < 2)", "null", "false true true true false false", "", 0},
		{`null < false, (true < 1), (1 < "a"), ("a" < []), ([] < {})`, "null", "true true true true true", "", 0},
		{`error("a") == error("b")`, "null", "", `"b"`, 3},
		{`error("a") == empty`, "null", "", "", 2},
		{". == .", "[1,[2],{\"a\":3}]", "true", "", 4},
	})
}

func TestP23_3AndOr(t *testing.T) {
	checkLines(t, []line{
		{"(true, false) and (true, null)", "null", "true false false", "", 10},
		{"(true, null) or (false, 1)", "null", "true false true", "", 10},
		{`(false, true) and error("x")`, "null", "false", `"x"`, 0},
		{`(true, false) or error("x")`, "null", "true", `"x"`, 0},
		{`null and error("x")`, "null", "false", "", 3},
		{`0 or error("x")`, "null", "true", "", 3},
		{`empty and error("x")`, "null", "", "", 2},
		{`empty or error("x")`, "null", "", "", 2},
		{"true and empty, false or empty", "null", "", "", 0},
		{`error("x") and true`, "null", "", `"x"`, 0},
		{`1 and "", null or []`, "null", "true true", "", 0},
		{`null or (1, false), true or error`, "null", "true false true", "", 0},
	})
}

func TestP23_3Else(t *testing.T) {
	checkLines(t, []line{
		{"(null, 1, false, 2) // 3", "null", "1 2", "", 0},
		{"empty // (3, 4)", "null", "3 4", "", 0},
		{"(null, false) // (3, 4)", "null", "3 4", "", 0},
		{`error("x") // 2`, "null", "2", "", 6},
		{`(1, error("x")) // 2`, "null", "1", "", 7},
		{`(null, error("x")) // 2`, "null", "2", "", 0},
		{`(error("x"), 1) // 2`, "null", "2", "", 0},
		{`1 // error("x")`, "null", "1", "", 4},
		{`null // error("x")`, "null", "", `"x"`, 0},
		{`null // empty`, "null", "", "", 3},
		{`(1 // 2) | error("x")`, "null", "", `"x"`, 0},
		{`(null // 2) | error("x")`, "null", "", `"x"`, 0},
		{`((1, 2) // 3) | if . == 2 then error("x") else . end`, "null", "1", `"x"`, 0},
		{"(null, 1) // 2 // 3", "null", "1", "", 0},
		{"null // false // 3", "null", "3", "", 0},
		{`.a // .b // "c"`, `{"b":false}`, `"c"`, "", 0},
	})
}

func TestP23_3If(t *testing.T) {
	checkLines(t, []line{
		{"if (true, null, 1) then (1, 2) else 3 end", "null", "1 2 3 1 2", "", 0},
		{"if true then 1 else 2 end", "null", "1", "", 5},
		{"if empty then 1 else 2 end", "null", "", "", 2},
		{`if error("x") then 1 else 2 end`, "null", "", `"x"`, 3},
		{"if . then .a end", `{"a":1}`, "1", "", 0},
		{"if . then 1 end", "false", "false", "", 4},
		{"if .a then 1 elif .b then 2 else 3 end", `{"b":0}`, "2", "", 0},
		{`if 0 then . else error("x") end`, "7", "7", "", 5},
	})
}

func TestP23_3Try(t *testing.T) {
	checkLines(t, []line{
		{`try error("x") catch .`, "null", `"x"`, "", 6},
		{`try (1, error("x"), 2) catch (., error("y"))`, "null", `1 "x"`, `"y"`, 0},
		{`try (1, 2) catch 9`, "null", "1 2", "", 8},
		{`(try (1, 2) catch 9) | error("z")`, "null", "", `"z"`, 0},
		{`(try (1, 2)) | error("z")`, "null", "", `"z"`, 0},
		{`((1, 2)? | if . == 2 then error("z") else . end)`, "null", "1", `"z"`, 0},
		{`try (try error("a") catch error("b")) catch [.]`, "null", `["b"]`, "", 0},
		{`try (try error("a") catch .) catch [.]`, "null", `"a"`, "", 0},
		{"try error(null) catch .", "5", "null", "", 5},
		{"try error catch .", `{"a":1}`, `{"a":1}`, "", 8},
		{"[.[] | (6 / .)?]", "[1,0,2]", "[6,3]", "", 0},
		{"(1, .a, 2)?", "5", "1", "", 0},
		{"[.[]?], 1", "3", "[] 1", "", 0},
		{`try error("x") catch empty`, "null", "", "", 4},
		{`1 as $x | try error("x") catch ($x, .)`, "null", `1 "x"`, "", 0},
		{`try (1, error("x")) catch ., 2`, "null", `1 "x" 2`, "", 0},
	})
}

func TestP23_3Bind(t *testing.T) {
	checkLines(t, []line{
		{"(1, 2) as $x | ($x, 10)", "null", "1 10 2 10", "", 20},
		{". as $x | 1 | $x", "[5]", "[5]", "", 8},
		{`empty as $x | error("x")`, "null", "", "", 2},
		{`(1, error("x")) as $x | $x, error("y")`, "null", "1", `"y"`, 0},
		{`error("x") as $x | 1`, "null", "", `"x"`, 3},
		{"(1, 2) as $x | (3, 4) as $y | [$x, $y, .]", "0", "[1,3,0] [1,4,0] [2,3,0] [2,4,0]", "", 0},
		{".[] as $x | .[0] + $x", "[1,2]", "2 3", "", 0},
	})
}

func TestP23_3Reduce(t *testing.T) {
	checkLines(t, []line{
		{"reduce .[] as $x (0; . + $x)", "[1,2,3]", "6", "", 0},
		{"reduce 1 as $x (2; .)", "null", "2", "", 6},
		{"reduce empty as $x (5; 1)", "null", "5", "", 5},
		{"reduce empty as $x (empty; 1)", "5", "null", "", 4},
		{"reduce (1, 2) as $x (0, 5; (., . + $x))", "null", "8", "", 0},
		{"reduce (1, 2) as $x (0; empty)", "null", "null", "", 0},
		{"reduce (1, 2) as $x (7; if $x == 1 then empty else [.] end)", "null", "[null]", "", 0},
		{`reduce error("s") as $x (error("i"); error("u"))`, "null", "", `"i"`, 3},
		{`reduce (1, error("s")) as $x (0; error("u"))`, "null", "", `"u"`, 0},
		{`reduce (1, error("s")) as $x (0; 1)`, "null", "", `"s"`, 0},
		{"reduce .[] as $x (.; [., $x])", "[1,2]", "[[[1,2],1],2]", "", 0},
		{"(reduce (1, 2) as $x (0; . + $x)), 7", "null", "3 7", "", 0},
		{`reduce 1 as $x (1, error("i"); .)`, "null", "", `"i"`, 0},
	})
}

func TestP23_3Foreach(t *testing.T) {
	checkLines(t, []line{
		{"foreach .[] as $x (0; . + $x)", "[1,2,3]", "1 3 6", "", 0},
		{"foreach 1 as $x (2; .)", "null", "2", "", 6},
		{"foreach 1 as $x (2; .; 3)", "null", "3", "", 7},
		{"foreach .[] as $x (0, 10; . + $x; [$x, .])", "[1,2]", "[1,1] [2,3] [1,11] [2,13]", "", 0},
		{"foreach (1, 2) as $x (0; (., . + $x))", "null", "0 1 1 3", "", 0},
		{"foreach (1, 2, 3) as $x (0; if $x == 2 then empty else . + $x end)", "null", "1 4", "", 0},
		{"foreach (1, 2) as $x (0; (5, 6); (., $x))", "null", "5 1 6 1 5 2 6 2", "", 0},
		{"foreach (1, 2) as $x (0; . + $x; empty)", "null", "", "", 0},
		{`foreach error("s") as $x (empty; error("u"))`, "null", "", "", 2},
		{`foreach error("s") as $x (error("i"); error("u"))`, "null", "", `"i"`, 3},
		{`foreach (1, error("s")) as $x (0; 1; error("e"))`, "null", "", `"e"`, 0},
		{`foreach (1, error("s")) as $x (0; $x)`, "null", "1", `"s"`, 0},
		{`foreach (1, 2) as $x (0; if $x == 2 then error("u") else $x end)`, "null", "1", `"u"`, 0},
		{"[foreach range(0; 5) as $i (null; $i; [., $i])]", "null", "[[0,0],[1,1],[2,2],[3,3],[4,4]]", "", 0},
	})
}

func TestP23_3BuiltIn(t *testing.T) {
	checkLines(t, []line{
		{"empty", "null", "", "", 1},
		{"error", `{"a":[1]}`, "", `{"a":[1]}`, 1},
		{"error", "null", "", "null", 1},
		{`error("x")`, "null", "", `"x"`, 2},
		{"error(1, 2)", "null", "", "1", 3},
		{`error(1, error("x"))`, "null", "", "1", 3},
		{"error(empty), 1", "null", "1", "", 6},
		{`error(error("x"))`, "null", "", `"x"`, 3},
		{"error(.a)", `{"a":7}`, "", "7", 4},
		{"1, error, 2", "[1]", "1", "[1]", 0},
		{"length", "null", "0", "", 5},
		{"has(0, 5)", "[1,2]", "true false", "", 8},
		{`has(empty)`, "[1,2]", "", "", 2},
		{`has("a", 0)`, `{"a":1}`, "true", `"has"`, 0},
		{`setpath(["a"]; 1)`, "null", `{"a":1}`, "", 17},
		{`setpath(["a"], ["b"]; 1, 2)`, "null", `{"a":1} {"b":1} {"a":2} {"b":2}`, "", 0},
		{`setpath(error("a"); error("b"))`, "null", "", `"b"`, 3},
		{`setpath(error("a"); empty)`, "null", "", "", 2},
		{`setpath(empty; error("b"))`, "null", "", `"b"`, 3},
		{`setpath(1; 2)`, "null", "", `"setpath"`, 3},
		{`getpath(["a", "b"], ["c"])`, `{"a":{"b":1},"c":2}`, "1 2", "", 0},
		{`split(",", ";")`, `"a,b;c"`, `["a","b;c"] ["a,b","c"]`, "", 0},
		{"keys", "5", "", `"keys"`, 1},
		{"_sort_by([2, 1])", `["a","b"]`, `["b","a"]`, "", 0},
		{"_group_by(1)", "[]", "", `"group_by"`, 2},
		{"not", "null", "true", "", 3},
		{"[.[] | tostring]", `[1,"a",[null]]`, `["1","a","[null]"]`, "", 0},
		{`tonumber`, `"x"`, "", `"tonumber"`, 1},
	})
}

func TestP23_3Range(t *testing.T) {
	checkLines(t, []line{
		{"range(0; 2)", "null", "0 1", "", 11},
		{"range(0, 1; 3, 4)", "null", "0 1 2 1 2 0 1 2 3 1 2 3", "", 0},
		{"range(2; 2), range(3; 0), range(0; -1)", "null", "", "", 0},
		{"range(2; 2)", "null", "", "", 3},
		{"range(-2; 1)", "null", "-2 -1 0", "", 0},
		{"range(-12; -9)", "null", "-12 -11 -10", "", 0},
		{"range(8; 12)", "null", "8 9 10 11", "", 0},
		{"range(7 / 2; 11 / 2)", "null", "3 4", "", 0},
		{"range(99999999999999999999; 100000000000000000002)", "null", "99999999999999999999 100000000000000000000 100000000000000000001", "", 0},
		{"range(9223372036854775806; 9223372036854775809)", "null", "9223372036854775806 9223372036854775807 9223372036854775808", "", 0},
		{`range("a"; 3)`, "null", "", `"range"`, 3},
		{"range(0; null)", "null", "", `"range"`, 3},
		{"range(.; .)", "[1]", "", `"range"`, 3},
		{`range(0, "x"; 1)`, "null", "0", `"range"`, 0},
		{`range("x"; error("b"))`, "null", "", `"b"`, 0},
		{`range(error("a"); error("b"))`, "null", "", `"b"`, 3},
		{`range(error("a"); "x")`, "null", "", `"a"`, 4},
		{`range(empty; error("b"))`, "null", "", `"b"`, 3},
		{`range(error("a"); empty)`, "null", "", "", 2},
		{`range("1.5"; 3)`, "null", "", `"range"`, 3},
		{`range(0; 5) | if . == 2 then error("x") else . end`, "null", "0 1", `"x"`, 0},
	})
}
