package place_test

import (
	"testing"

	"hallmark/api"
	"hallmark/place"
	"hallmark/specimen"
)

// One place, several, none, the same one twice, one within another, and places that aren't there yet.
func TestP24_2Places(t *testing.T) {
	checkLines(t, []line{
		{". = 7", "[1]", "7", "", 0},
		{". |= [.]", "1", "[1]", "", 0},
		{".a = 1", `{"a":[2],"b":3}`, `{"a":1,"b":3}`, "", 0},
		{".[] |= . + 1", "[1,2,3]", "[2,3,4]", "", 0},
		{".[] |= . + 1", `{"b":1,"a":2}`, `{"a":3,"b":2}`, "", 0},
		{"(.b, .a) |= [., 1]", `{"a":2}`, `{"a":[2,1],"b":[null,1]}`, "", 0},
		{`.["a", "b"] = 5`, "null", `{"a":5,"b":5}`, "", 0},
		{".[1, 0] *= 3", "[1,2]", "[3,6]", "", 0},
		{".[-1] -= 1", "[1,2]", "[1,1]", "", 0},
		{"empty = 1", "5", "5", "", 0},
		{"empty |= 1", "5", "5", "", 0},
		{"empty += (1, 2)", "5", "5 5", "", 0},
		{".a? = 1", "5", "5", "", 0},
		{".[] = 1", "[]", "[]", "", 0},
		{"(.a, .a) += 1", `{"a":1}`, `{"a":3}`, "", 0},
		{"(.a, .a) |= [.]", `{"a":1}`, `{"a":[[1]]}`, "", 0},
		{"(.a, .a) = [1]", `{"a":1}`, `{"a":[1]}`, "", 0},
		{"(.a, .a) //= (1, 2)", "{}", `{"a":1} {"a":2}`, "", 0},
		{"(.[0], .[-2]) += 1", "[1,5]", "[3,5]", "", 0},
		{"(.a.b, .a) |= [.]", `{"a":{"b":1}}`, `{"a":[{"b":[1]}]}`, "", 0},
		{"(., .a) |= {a: ., b: 1}", `{"a":2}`, `{"a":{"a":{"a":2},"b":1},"b":1}`, "", 0},
		{".. |= [.]", "[[1]]", "[[[[[1]]]]]", "", 0},
		{".. = 0", "0", "0", "", 0},
		{"(.a, .a.b) |= 1", "{}", "", `"getpath"`, 0},
		{"(.a, .a.b) = 1", "{}", "", `"setpath"`, 0},
		{"(.a, .a.b) += 1", "{}", "", `"getpath"`, 0},
		{".a |= .", "{}", `{"a":null}`, "", 0},
		{".a.b[1].c = 1", "null", `{"a":{"b":[null,{"c":1}]}}`, "", 0},
		{".[3] = 1", "[0]", "[0,null,null,1]", "", 0},
		{".[2] |= 1", "null", "[null,null,1]", "", 0},
		{".a += 1", "null", `{"a":1}`, "", 0},
		{`."é" = 1`, `{"z":0}`, `{"z":0,"é":1}`, "", 0},
		{".b = 1 | .a = 2", "null", `{"a":2,"b":1}`, "", 0},
		{`getpath(["a", 0]) = 1`, "null", `{"a":[1]}`, "", 0},
		{"(if .a then .b else .c end) = 1", `{"a":1}`, `{"a":1,"b":1}`, "", 0},
		{"(.a // .b) = 1", `{"b":2}`, `{"b":1}`, "", 0},
		{"first(.[]) = 0", "[1,2]", "[0,2]", "", 0},
		{"(.[] | select(. > 1)) |= . * 10", "[1,2,3]", "[1,20,30]", "", 0},
		{"recurse |= (numbers |= . + 1)", `[1,"a",[2]]`, `[2,"a",[3]]`, "", 0},
		{"(label $l | .[] | (., break $l)) = 0", "[1,2]", "[0,2]", "", 0},
		{"(def f: .a, .b; f) = 1", "null", `{"a":1,"b":1}`, "", 0},
		{`("a" as $k | .[$k]) = 1`, "null", `{"a":1}`, "", 0},
		{"(.a = empty) |= 5", `{"b":1}`, `{"b":1}`, "", 0},
	})
}

// What b gives: none, one, several, a fault; where it runs, and on what.
func TestP24_2Values(t *testing.T) {
	checkLines(t, []line{
		{".a |= empty", `{"a":1}`, `{"a":null}`, "", 0},
		{".a |= (1, 2)", "{}", `{"a":2}`, "", 0},
		{`.a |= error("x")`, "{}", "", `"x"`, 0},
		{`.a |= (1, error("x"))`, "{}", "", `"x"`, 0},
		{`.[] |= if . > 1 then error else 9 end`, "[1,2,3]", "", "2", 0},
		{".a = empty", "{}", "", "", 0},
		{".a = (1, [2], 3)", "{}", `{"a":1} {"a":[2]} {"a":3}`, "", 0},
		{`.a = (1, error("x"))`, "{}", `{"a":1}`, `"x"`, 0},
		{`.a = error("x")`, "{}", "", `"x"`, 0},
		{".a += empty", "{}", "", "", 0},
		{".a -= (1, 2)", `{"a":5}`, `{"a":4} {"a":3}`, "", 0},
		{`.a *= (2, error("x"), 3)`, `{"a":5}`, `{"a":10}`, `"x"`, 0},
		{".a |= .b", `{"a":{"b":7},"b":8}`, `{"a":7,"b":8}`, "", 0},
		{".a = .b", `{"a":{"b":7},"b":8}`, `{"a":8,"b":8}`, "", 0},
		{".a += .b", `{"a":1,"b":8}`, `{"a":9,"b":8}`, "", 0},
		{"(.a, .b) = .a", `{"a":1,"b":2}`, `{"a":1,"b":1}`, "", 0},
		{"(.a, .b) += .a", `{"a":1,"b":2}`, `{"a":2,"b":3}`, "", 0},
		{".[] = .", "[1,2]", "[[1,2],[1,2]]", "", 0},
		{".[] |= (1, .)", "[3,4]", "[3,4]", "", 0},
		{"label $l | .a |= (1, break $l)", "{}", "", "", 0},
		{"label $l | .a = (1, break $l, 2)", "{}", `{"a":1}`, "", 0},
		{"label $l | (.a, break $l) = (1, 2)", "{}", "", "", 0},
		{"[label $l | .[] += (1, 2, break $l)]", "[5]", "[[6],[7]]", "", 0},
		{"first(.a = (1, 2))", "{}", `{"a":1}`, "", 0},
	})
}

// Each operation, on what it takes and on what it doesn't.
func TestP24_2Operations(t *testing.T) {
	checkLines(t, []line{
		{".[] += 2", `[1,null]`, "[3,2]", "", 0},
		{`.[] += "b"`, `["a"]`, `["ab"]`, "", 0},
		{`.a += "b"`, `{"a":1}`, "", `"add"`, 0},
		{".a -= 2", `{"a":5}`, `{"a":3}`, "", 0},
		{".a -= [1]", `{"a":[1,2,1]}`, `{"a":[2]}`, "", 0},
		{".a -= 1", "{}", "", `"sub"`, 0},
		{".a *= 3", `{"a":5}`, `{"a":15}`, "", 0},
		{".a *= 3", "{}", "", `"mul"`, 0},
		{".a /= 2", `{"a":7}`, `{"a":3}`, "", 0},
		{".a /= 0", `{"a":7}`, "", `"div by 0"`, 0},
		{".a %= 4", `{"a":7}`, `{"a":3}`, "", 0},
		{".a %= 0", `{"a":7}`, "", `"mod by 0"`, 0},
		{".[] //= 0", `[null,false,true,0,""]`, `[0,0,true,0,""]`, "", 0},
		{".a //= .b", `{"b":[1]}`, `{"a":[1],"b":[1]}`, "", 0},
		{".a //= null", "{}", `{"a":null}`, "", 0},
		{".a //= empty", "{}", "", "", 0},
		{".a //= (1, 2)", `{"a":3}`, `{"a":3} {"a":3}`, "", 0},
		{`.a //= error("x")`, `{"a":3}`, "", `"x"`, 0},
	})
}

// A filter that names no places, putting that fails, and which fault comes first.
func TestP24_2Faults(t *testing.T) {
	checkLines(t, []line{
		{"1 |= 2", "null", "", `"path"`, 0},
		{"1 = 2", "null", "", `"path"`, 0},
		{"(1, 2) += 3", "null", "", `"path"`, 0},
		{"(.a + 1) = 2", "null", "", `"path"`, 0},
		{"(.a, 1) = 2", "null", "", `"path"`, 0},
		{"(.a = 1) = 2", "null", "", `"path"`, 0},
		{"last(.[]) = 2", "[1]", "", `"path"`, 0},
		{".[1:] = [5]", "[1,2]", "", `"path"`, 0},
		{"1 = empty", "null", "", "", 0},
		{"1 //= empty", "null", "", "", 0},
		{"1 |= empty", "null", "", `"path"`, 0},
		{".a = 1", "[]", "", `"index"`, 0},
		{".a += 1", "[]", "", `"index"`, 0},
		{".[] = 1", "null", "", `"each"`, 0},
		{".[-1] = 0", "[]", "", `"setpath"`, 0},
		{".[-1] |= 0", "[]", "", `"setpath"`, 0},
		{".[-1] += 1", "null", "", `"setpath"`, 0},
		{".[70000] = 1", "null", "", `"setpath"`, 0},
		{"(.[0], .a) = 1", "null", "", `"setpath"`, 0},
		{"(.[0], .a) |= 1", "null", "", `"getpath"`, 0},
		{`(.a, error("x")) = 1`, "{}", "", `"x"`, 0},
		{`(.[-1], error("x")) = 1`, "[]", "", `"setpath"`, 0},
		{`error("a") = error("b")`, "{}", "", `"b"`, 0},
		{`error("a") += error("b")`, "{}", "", `"b"`, 0},
		{`error("a") |= error("b")`, "{}", "", `"a"`, 0},
		{`(.a, error("a")) |= error("b")`, "{}", "", `"b"`, 0},
		{`error("a") = (1, error("b"))`, "{}", "", `"a"`, 0},
		{"try (.a |= error(.)) catch [.]", `{"a":1}`, "[1]", "", 0},
		{"[(.a, .b)? = 1]", "[]", `[[]]`, "", 0},
		{"(.a = 1)?, 2", "[]", "2", "", 0},
	})
}

// Changes within changes, and in filters of the library.
func TestP24_2Within(t *testing.T) {
	checkLines(t, []line{
		{".a |= (.b |= (.c |= 3))", "{}", `{"a":{"b":{"c":3}}}`, "", 0},
		{".[] |= (.[] |= . + 1)", "[[1],[2,3]]", "[[2],[3,4]]", "", 0},
		{".a += (.b = 1 | .b)", `{"a":2}`, `{"a":3}`, "", 0},
		{".a = (.b = (1, 2))", "{}", `{"a":{"b":1}} {"a":{"b":2}}`, "", 0},
		{".[.a |= 1 | .a] = 5", "[0]", "", `"index"`, 0},
		{".[.a |= 1 | .a] = 5", "null", "[null,5]", "", 0},
		{"def f: if . > 0 then . - 1 | f else . end; .[] |= f", "[3,0]", "[0,0]", "", 0},
		{"def f: .[]? |= f | .a? += 1; f", `{"a":1,"b":{"a":5}}`, `{"a":2,"b":{"a":6}}`, "", 0},
		{"map(.a |= . + 1)", `[{"a":1},{}]`, `[{"a":2},{"a":1}]`, "", 0},
		{"with_entries(.value += 1)", `{"a":1,"b":2}`, `{"a":2,"b":3}`, "", 0},
		{`walk(if type == "number" then . + 1 else . end)`, `{"a":[1,{"b":2}]}`, `{"a":[2,{"b":3}]}`, "", 0},
		{"reduce range(0; 3) as $i ([]; .[$i] = $i * $i)", "null", "[0,1,4]", "", 0},
		{"[foreach (1, 2) as $x ({}; .a += $x)]", "null", `[{"a":1},{"a":3}]`, "", 0},
		{`"\(.a = 1)"`, "{}", `"{\"a\":1}"`, "", 0},
		{"[path((.a, .b)), (.a = 1)]", "null", `[["a"],["b"],{"a":1}]`, "", 0},
	})
}

// What changes cost, part by part of what they are rewritten to.
func TestP24_3Price(t *testing.T) {
	const bound, loop, pair = 2, 5, 3 // Bind and b; Reduce, Self, path, a and a way of weight 1; setpath, $p, $x
	const last = 6                    // Reduce, null, Pipe, getpath, $p, and $x at the end
	checkLines(t, []line{
		{". = 5", "1", "5", "", bound + loop + pair + 2 + 2},
		{". |= 5", "1", "5", "", loop + 2 + last + 2 + 1 + 2 + 2},
		{". |= empty", "1", "null", "", loop + 2 + last - 1 + 2 + 1 + 1 + 1},
		{". += 5", "1", "6", "", bound + loop + 2 + last + 2 + 3 + 2 + 2 + 2},
		{". //= 5", "1", "1", "", bound + loop + 2 + last + 2 + 2 + 2 + 2},
		{". //= 5", "null", "5", "", bound + loop + 2 + last + 1 + 3 + 2 + 2},
		{"empty = 5", "1", "1", "", bound + loop - 1 + 2},
		{"empty |= 5", "1", "1", "", loop - 1 + 2},
		{". = empty", "1", "", "", bound},
		{"1 = 5", "1", "", `"path"`, bound + loop - 1},
		{".a = (1, 2)", "null", `{"a":1} {"a":2}`, "", 25 + 23},
		{".a |= . + 1", `{"a":1,"b":[]}`, `{"a":2,"b":[]}`, "", 40},
	})
}

// Steps as a text: behind each output is left what the run has left then.
func TestP24_2StepsText(t *testing.T) {
	n := read(t, ".a = (1, 2)")
	for fuel, want := range map[int]string{
		100: `{"a":1} done, left 75; {"a":2} done, left 52;  done, left 52; `,
		48:  `{"a":1} done, left 23; {"a":2} done, left 0;  done, left 0; `,
		47:  `{"a":1} done, left 22;  spent, left 0; `,
		25:  `{"a":1} done, left 0;  spent, left 0; `,
		24:  " spent, left 0; ",
		0:   " spent, left 0; ",
	} {
		if got := runs().ToldSteps(n, api.Value{}, fuel); got != want {
			t.Errorf("Steps with %d: %s, want %s", fuel, got, want)
		}
	}
}

// changing are filters with changes that give several outputs, and end in each way.
func changing() []string {
	return []string{".a? = 1", ".[]? = (1, 2, 3)", ".a = 1", "empty = 1", ". = empty", "(.a?, .b?) += (1, 2)", `.[]? |= error("x")`, `.[]? = (1, error("x"))`, "def f: (.[]? |= 1), f; f", ". = range(0; 20)", "label $l | . = (1, break $l, 2)", ".[]? //= (.[]? = (1, 2))", ". = (1, 2) | . += (3, 4)", `1, (. = "a" * 99999999), 2`}
}

// Left at each step, and gone through again, each time from the beginning, also while it is being gone through; what the caller gives up with goes through it.
func TestP24_2LeftAndAgain(t *testing.T) {
	for _, s := range changing() {
		for _, fuel := range []int{0, 20, 60, 400} {
			if wrong := runs().WrongSteps(parsed(t, s), specimen.JSON("[1,[2]]"), fuel); wrong != "" {
				t.Errorf("%s: %s", s, wrong)
			}
		}
	}
}

// No step is worked out ahead of being asked for: what lies behind makes nothing.
func TestP24_2NoFurther(t *testing.T) {
	for _, s := range []string{". = range(0; 30000)", ". = (1, [range(0; 30000)])", ". += (1, (reduce range(0; 30000) as $x (0; $x)))", "1, (.[] = range(0; 30000))", ". //= (1, (def f: f; f))"} {
		seq, e := place.Steps(parsed(t, s), specimen.JSON("1"), api.MaxFuel)
		if e != api.OK {
			t.Fatalf("Steps(%s) = %d", s, e)
		}
		first := testing.AllocsPerRun(3, func() {
			for range seq {
				break
			}
		})
		if first > 300 {
			t.Errorf("the first step of %s makes %v pieces of memory", s, first)
		}
	}
}
