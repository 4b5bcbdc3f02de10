package syntax_test

import (
	"strings"
	"testing"

	"hallmark/api"
	"hallmark/specimen"
	"hallmark/syntax"
)

// posts are posts, each ahead of what it is read as.
func posts() []string {
	return []string{
		".", "self", "..", "call.recurse", ".a", `index(self "a")`, `."a"`, `index(self "a")`, `."a\(1)"`, `index(self join("a" 1 ""))`, "1", "1", "null", "null", `"t"`, `"t"`, `"a\(1)b"`, `join("a" 1 "b")`, "$x", "var.x", "f", "call.f", "f(1; 2)", "call.f(1 2)",
		"(1 | 2)", "pipe(1 2)", "(-1)", "neg(1)", "[]", "list", "[1, 2]", "list(both(1 2))", "{}", "record", "{a: 1}", `record("a" 1)`, "if 1 then 2 end", "if(1 2 self)", "break $l", "break.l",
		"reduce . as $x (1; 2)", "reduce.x(self 1 2)", "foreach . as $x (1; 2; 3)", "foreach.x(self 1 2 3)", ".[]", "each(self)", ".[1]", "index(self 1)", ".[1:]", "slice(self 1 none)", ".a.b", `index(index(self "a") "b")`, ".?", "try(self)", "(try 1)", "try(1)", "(try 1 catch 2)", "try(1 2)",
	}
}

// suffixes are suffixes, each ahead of what is told on both sides of what stands ahead of it.
func suffixes() []string {
	return []string{
		".a", "index(", ` "a")`, ".if", "index(", ` "if")`, `."b"`, "index(", ` "b")`, ` . "b"`, "index(", ` "b")`, `."p\(1)q"`, "index(", ` join("p" 1 "q"))`, "[1]", "index(", " 1)", `["c"]`, "index(", ` "c")`, "[1, 2 | 3]", "index(", " pipe(both(1 2) 3))", "[. as $y | 1]", "index(", " bind.y(self 1))",
		"[1:2]", "slice(", " 1 2)", "[1:]", "slice(", " 1 none)", "[:2]", "slice(", " none 2)", "[1, 2:3 | 4]", "slice(", " both(1 2) pipe(3 4))", "[]", "each(", ")", " [ ]", "each(", ")", "?", "try(", ")",
	}
}

func TestP17_1Suffixes(t *testing.T) {
	p, all := posts(), suffixes()
	for i := 0; i < len(p); i += 2 {
		reads(t, p[i], p[i+1])
		for k := 0; k < len(all); k += 3 {
			once, told := p[i]+" "+all[k], all[k+1]+p[i+1]+all[k+2]
			if p[i] == "." && strings.Contains(all[k], `"b"`) { // the dot's own text would stand there, were there no dot between
				once = p[i] + " . " + strings.Trim(all[k], " .")
			}
			reads(t, once, told)
			for m := 0; m < len(all); m += 3 {
				twice := once + all[m]
				if got, want := toldOf(t, twice), all[m+1]+told+all[m+2]; got != want {
					t.Errorf("%s is read as %s, want %s", twice, got, want)
				}
			}
		}
	}
	readsAll(t,
		`.a.b."c"["d"][0][][1:]?`, `try(slice(each(index(index(index(index(index(self "a") "b") "c") "d") 0)) 1 none))`,
		".[.[.[0]]]", "index(self index(self index(self 0)))",
		".[.a:.b]", `slice(self index(self "a") index(self "b"))`,
		".[{a: 1}:2]", `slice(self record("a" 1) 2)`,
		".[:{a: 1}]", `slice(self none record("a" 1))`,
		`"a".b`, `index("a" "b")`,
		`"a"."b"`, `index("a" "b")`,
		`"a"[0:1]`, `slice("a" 0 1)`,
	)
	refuses(t, ".[:]", api.ErrPlace, 3)
	refuses(t, "1[ : ]", api.ErrPlace, 5)
	refuses(t, ".[1:2:3]", api.ErrPlace, 5)
	refuses(t, ".[::2]", api.ErrPlace, 3)
	refuses(t, ".[1::]", api.ErrPlace, 4)
	refuses(t, ".[1", api.ErrEarly, 3)
	refuses(t, ".[1:", api.ErrEarly, 4)
	refuses(t, ".[:", api.ErrEarly, 3)
	refuses(t, ".[:1", api.ErrEarly, 4)
	refuses(t, ".[1:2", api.ErrEarly, 5)
	refuses(t, ".[", api.ErrEarly, 2)
	refuses(t, ".[1;", api.ErrPlace, 3)
	refuses(t, ".[1)", api.ErrPlace, 3)
	refuses(t, ".[}", api.ErrPlace, 2)
	refuses(t, `."a""b"`, api.ErrPlace, 4)
	refuses(t, `.a "b"`, api.ErrPlace, 3)
	refuses(t, ".a 1", api.ErrPlace, 3)
	refuses(t, ".a..", api.ErrPlace, 2)
	refuses(t, ".a . b", api.ErrPlace, 5)
	refuses(t, ".a.", api.ErrEarly, 3)
}

// toldOf is what a text is read as.
func toldOf(t *testing.T, s string) string {
	t.Helper()
	n, e, at := syntax.Parse(s)
	if e != api.OK || at != 0 {
		t.Errorf("Parse(%q): %d, %d", s, e, at)
	}
	return specimen.ToldFilter(n, false)
}

func TestP17_1QuestionMarks(t *testing.T) {
	readsAll(t,
		".?", "try(self)", ".??", "try(try(self))", ". ? ? ?", "try(try(try(self)))", ".a?", `try(index(self "a"))`, ".a?.b?", `try(index(try(index(self "a")) "b"))`, ".[]?", "try(each(self))", "1?", "try(1)", "f?", "try(call.f)", "..?", "try(call.recurse)",
		"try .?", "try(try(self))", "try 1? catch 2?", "try(try(1) try(2))", "(try 1)?", "try(try(1))", "-1?", "neg(try(1))", "1 + 2?", "add(1 try(2))", "(1 + 2)?", "try(add(1 2))", ". as $x | .?", "bind.x(self try(self))", ".? as $x | 1", "bind.x(try(self) 1)",
	)
	refuses(t, "?", api.ErrPlace, 0)
	refuses(t, "1 + ?", api.ErrPlace, 4)
	refuses(t, "(?", api.ErrPlace, 1)
	refuses(t, "-?", api.ErrPlace, 1)
}

// A catch belongs to the nearest try that has none.
func TestP17_1Tries(t *testing.T) {
	readsAll(t,
		"try 1", "try(1)", "try 1 catch 2", "try(1 2)", "try try 1", "try(try(1))", "try try try 1", "try(try(try(1)))",
		"try try 1 catch 2", "try(try(1 2))", "try try 1 catch 2 catch 3", "try(try(1 2) 3)", "try try try 1 catch 2 catch 3", "try(try(try(1 2) 3))", "try try try 1 catch 2 catch 3 catch 4", "try(try(try(1 2) 3) 4)",
		"try 1 catch try 2", "try(1 try(2))", "try 1 catch try 2 catch 3", "try(1 try(2 3))", "try 1 catch try 2 catch try 3 catch 4", "try(1 try(2 try(3 4)))",
		"try try 1 catch try 2 catch 3", "try(try(1 try(2 3)))", "try try 1 catch try 2 catch 3 catch 4", "try(try(1 try(2 3)) 4)", "try try 1 catch try try 2 catch 3 catch 4 catch 5", "try(try(1 try(try(2 3) 4)) 5)",
		"try (try 1) catch 2", "try(try(1) 2)", "try [try 1] catch 2", "try(list(try(1)) 2)", "try f(try 1) catch 2", "try(call.f(try(1)) 2)", "try if try 1 then 2 end catch 3", "try(if(try(1) 2 self) 3)",
		"try .a.b[0]? catch .c.d[1]?", `try(try(index(index(index(self "a") "b") 0)) try(index(index(index(self "c") "d") 1)))`, "(try .a).b", `index(try(index(self "a")) "b")`, "(try .a catch .b).c", `index(try(index(self "a") index(self "b")) "c")`, "try .a.b", `try(index(index(self "a") "b"))`, "try .[0]", "try(index(self 0))",
		"try (-1)", "try(neg(1))", "try 1 + 2", "add(try(1) 2)", "try 1 catch 2 + 3", "add(try(1 2) 3)", "1 + try 2 catch 3 * 4", "add(1 mul(try(2 3) 4))", "try 1 | try 2 catch 3", "pipe(try(1) try(2 3))", "try 1, 2", "both(try(1) 2)", "try 1 // 2", "else(try(1) 2)", "try . = 1", "put(try(self) 1)",
		"try . as $x | 1", "bind.x(try(self) 1)", "try 1 catch . as $x | 2", "bind.x(try(1 self) 2)", "try reduce . as $x (1; try 2) catch 3", "try(reduce.x(self 1 try(2)) 3)", "reduce try . catch 1 as $x (2; 3)", "reduce.x(try(self 1) 2 3)", "try reduce try . as $x (1; 2) catch 3", "try(reduce.x(try(self) 1 2) 3)", "try reduce try . catch 1 as $x (2; 3).a catch 4", `try(index(reduce.x(try(self 1) 2 3) "a") 4)`,
		`try "a\(try 1)b" catch 2`, `try(join("a" try(1) "b") 2)`, "try {a: try 1 catch 2, b: try 3} catch 4", `try(record("a" try(1 2) "b" try(3)) 4)`, "try break $l catch 1", "try(break.l 1)", "try error catch .", "try(call.error self)",
	)
	for s, at := range map[string]int{
		"catch": 0, "catch 1": 0, "1 catch 2": 2, "try 1 catch 2 catch 3": 14, "try try 1 catch 2 catch 3 catch 4": 26, "(try 1) catch 2": 8, "try (try 1 catch 2) catch 3 catch 4": 28, "try 1 | 2 catch 3": 10, "try 1 + 2 catch 3": 10, "try -1": 4, "try 1 catch -1": 12, "try def f: 1; 2": 4, "try label $l | 1": 4, "try catch": 4, "try 1 catch catch": 12, "try then": 4, "try |": 4, "try 1 catch |": 12, "try)": 3, "try 1, 2 catch 3": 9, "try 1 as $x | 2 catch 3": 16, "reduce try 1 catch 2 catch 3 as $x (1; 2)": 21,
	} {
		refuses(t, s, api.ErrPlace, at)
	}
	refuses(t, "try", api.ErrEarly, 3)
	refuses(t, "try try", api.ErrEarly, 7)
	refuses(t, "try 1 catch", api.ErrEarly, 11)
	refuses(t, "try try 1 catch", api.ErrEarly, 15)
	refuses(t, "try 1 catch try", api.ErrEarly, 15)
}

// "as" stands behind a post that begins a pipe, and behind no other thing.
func TestP17_1Bindings(t *testing.T) {
	p := posts()
	for i := 0; i < len(p); i += 2 {
		reads(t, p[i]+" as $y | 1", "bind.y("+p[i+1]+" 1)")
		reads(t, "1 | "+p[i]+" as $y | 1", "pipe(1 bind.y("+p[i+1]+" 1))")
		reads(t, "reduce "+p[i]+" as $y (1; 2)", "reduce.y("+p[i+1]+" 1 2)")
		reads(t, "foreach "+p[i]+" as $y (1; 2)", "foreach.y("+p[i+1]+" 1 2)")
		for _, ahead := range []string{"-", "- -", "1,", "1 +", "1 *", "1 ==", "1 and", "1 or", "1 //", "1 =", "1 |=", "1, 2 +", ". as $x | 1,", "def f: 1; -", "[1, 2,", "{a: ", "{a: 1 + "} {
			refuses(t, ahead+" "+p[i]+" as $y | 1", api.ErrPlace, len(ahead)+2+len(p[i]))
		}
	}
	for _, b := range binaries() {
		if b.sign == "|" {
			continue
		}
		s := "1 " + b.sign + " 2"
		refuses(t, s+" as $x | 3", api.ErrPlace, len(s)+1)
		refuses(t, "reduce "+s+" as $x (1; 2)", api.ErrPlace, 9)
		reads(t, "("+s+") as $x | 3", "bind.x("+b.told+"(1 2) 3)")
		refuses(t, ". as $x "+b.sign+" 3", api.ErrPlace, 8)
	}
	refusesAll(t, map[string]int{"as": 0, "as $x | 1": 0, ". as x | 1": 5, ". as . | 1": 5, ". as [$x] | 1": 5, ". as {a: $x} | 1": 5, ". as if | 1": 5, ". as | 1": 5, ". as $x 1": 8, ". as $x, 1": 7, ". as $x": -7, ". as": -4, ". as $x |": -9, ". as $x as $y | 1": 8, ". as $x | as": 10, ". as $x | )": 10, "(. as $x": -8, "(. as $x)": 8, ". as $x; 1": 7, ". as $x |= 1": 8, ". as $x || 1": 9})
}

// A dot, two dots, ahead of words of every kind.
func TestP17_1Dots(t *testing.T) {
	readsAll(t,
		".", "self", "..", "call.recurse", ". | .", "pipe(self self)", ".. | ..", "pipe(call.recurse call.recurse)", ".a", `index(self "a")`, ".if", `index(self "if")`, ".and", `index(self "and")`, ".null", `index(self "null")`, "._", `index(self "_")`, ".a9_", `index(self "a9_")`,
		`."a"`, `index(self "a")`, `. "a"`, `index(self "a")`, `.""`, `index(self "")`, `."é\n"`, `index(self "é\n")`, `."a\(1)"`, `index(self join("a" 1 ""))`, `. "\("x")\(2)"`, `index(self join("" "x" "" 2 ""))`,
		". .a", `index(self "a")`, ". . \"a\"", `index(self "a")`, `."a"."b"`, `index(index(self "a") "b")`, `."a" . "b"`, `index(index(self "a") "b")`, `."a".b`, `index(index(self "a") "b")`, ".[0]", "index(self 0)", ". [0]", "index(self 0)", ".[]", "each(self)", ".?", "try(self)",
		".. .a", `index(call.recurse "a")`, "..[0]", "index(call.recurse 0)", "..[]?", "try(each(call.recurse))", `.. . "a"`, `index(call.recurse "a")`, "..|.a", `pipe(call.recurse index(self "a"))`, "..,.", "both(call.recurse self)", "...a", `index(call.recurse "a")`,
		".+.", "add(self self)", ".*..", "mul(self call.recurse)", ".-1", "sub(self 1)", ".==.", "eq(self self)", "[.]", "list(self)", "{a: .}", `record("a" self)`, ".a.b.c", `index(index(index(self "a") "b") "c")`, ". as $x | .", "bind.x(self self)",
	)
	for _, dot := range []string{".", ".."} {
		for _, x := range []string{"f", "$x", "1", "null", "true", "if", "def", "reduce", "try", "break", "label", "(", "{", ")", "]", "}", ":", ";", "then", "end", "catch"} {
			refuses(t, dot+" "+x, api.ErrPlace, len(dot)+1)
			refuses(t, dot+" "+x+" 1", api.ErrPlace, len(dot)+1)
		}
	}
	refuses(t, ". ..", api.ErrPlace, 2)
	refuses(t, ".. ..", api.ErrPlace, 3)
	refuses(t, `.."a"`, api.ErrPlace, 2)
	refuses(t, `.. "a\(1)"`, api.ErrPlace, 3)
	refuses(t, "..a", api.ErrPlace, 2)
	refuses(t, "....", api.ErrPlace, 2)
	refuses(t, "...", api.ErrEarly, 3)
	refuses(t, ". .", api.ErrEarly, 3)
	refuses(t, ". . .", api.ErrPlace, 4)
	refuses(t, ". . a", api.ErrPlace, 4)
	refuses(t, ". . [0]", api.ErrPlace, 4)
	refuses(t, ".a.[0]", api.ErrPlace, 3)
	refuses(t, ".[0].[0]", api.ErrPlace, 5)
	refuses(t, ".1", api.ErrPlace, 1)
	refuses(t, ".$x", api.ErrPlace, 1)
	refuses(t, ".(1)", api.ErrPlace, 1)
}

// Texts, with filters in them or without, in all places where they may stand.
func TestP17_1Texts(t *testing.T) {
	texts := []string{
		`""`, `""`, `"a"`, `"a"`, `"é\n\"\\"`, `"é\n\"\\"`, `"\u0041\ud83d\ude00"`, `"A😀"`, `"if"`, `"if"`, `"+"`, `"+"`, `"(1)"`, `"(1)"`, `"# no"`, `"# no"`,
		`"\(1)"`, `join("" 1 "")`, `"a\(1)"`, `join("a" 1 "")`, `"\(1)b"`, `join("" 1 "b")`, `"a\(1)b"`, `join("a" 1 "b")`, `"\(1)\(2)"`, `join("" 1 "" 2 "")`, `"a\(1)b\(2)c\(3)d"`, `join("a" 1 "b" 2 "c" 3 "d")`, `"\(1)\(2)\(3)\(4)"`, `join("" 1 "" 2 "" 3 "" 4 "")`,
		`"\("\("a")")"`, `join("" join("" "a" "") "")`, `"a\("b\("c\(1)d")e")f"`, `join("a" join("b" join("c" 1 "d") "e") "f")`, `"\("a\(1)")\("\(2)b")"`, `join("" join("a" 1 "") "" join("" 2 "b") "")`, `"\((1))"`, `join("" 1 "")`, `"\(((1), 2))"`, `join("" both(1 2) "")`,
		`"\(1 | 2, 3)"`, `join("" pipe(1 both(2 3)) "")`, `"\(. as $x | $x)"`, `join("" bind.x(self var.x) "")`, `"\(def f: 1; f)"`, `join("" def.f(1 call.f) "")`, `"\(label $l | 1)"`, `join("" label.l(1) "")`, `"\(if 1 then 2 end)"`, `join("" if(1 2 self) "")`, `"\( 1 # )` + "\n" + `)"`, `join("" 1 "")`, `"\(-1)"`, `join("" neg(1) "")`, `"\(")")"`, `join("" ")" "")`, `"\n\(1)\t"`, `join("\n" 1 "\t")`,
	}
	for i := 0; i < len(texts); i += 2 {
		s, told := texts[i], texts[i+1]
		readsAll(t, s, told, "."+s, "index(self "+told+")", ". "+s, "index(self "+told+")", ".a."+s, `index(index(self "a") `+told+")", ".a . "+s+"."+s, `index(index(index(self "a") `+told+") "+told+")", "$x."+s+"?", "try(index(var.x "+told+"))",
			".["+s+"]", "index(self "+told+")", s+"[0]", "index("+told+" 0)", s+".a", "index("+told+` "a")`, s+" + "+s, "add("+told+" "+told+")", "{"+s+": 1}", "record("+told+" 1)", "{a: "+s+"}", `record("a" `+told+")", "{("+s+"): 1}", "record("+told+" 1)", "{"+s+": "+s+", "+s+": "+s+"}", "record("+told+" "+told+" "+told+" "+told+")", s+" as $x | "+s, "bind.x("+told+" "+told+")", "try "+s+" catch "+s, "try("+told+" "+told+")", "f("+s+"; "+s+")", "call.f("+told+" "+told+")")
	}
	for s, at := range map[string]int{`"\()"`: 3, `"a\(1)b\()c"`: 9, `"\(1 2)"`: 5, `"\(1,)"`: 5, `"\([)"`: 4, `"\([1)"`: 5, `"\(])"`: 3, `"\(1;2)"`: 4, `"\(if)"`: 5, `"\(1)\(|)"`: 7, `"\()\(1)"`: 3, `"a" "b"`: 4, `"a\(1)" "b"`: 8, `"a" "b\(1)"`: 4, `1 "b\(1)"`: 2, `"a\(1)"f`: 7, `"\(def f: 1)"`: 11, `"\("\()")"`: 6, `"\({)"`: 4, `"\({a: )"`: 7} {
		refuses(t, s, api.ErrPlace, at)
	}
}

func TestP17_1ListsAndGroups(t *testing.T) {
	readsAll(t,
		"[]", "list", "[ ]", "list", "[1]", "list(1)", "[1, 2]", "list(both(1 2))", "[1 | 2]", "list(pipe(1 2))", "[[]]", "list(list)", "[[[1]]]", "list(list(list(1)))", "[][0]", "index(list 0)", "[1][]", "each(list(1))", "[] | []", "pipe(list list)", "[[], []]", "list(both(list list))", "[. as $x | 1]", "list(bind.x(self 1))", "[def f: 1; f]", "list(def.f(1 call.f))",
		"(1)", "1", "((1))", "1", "(1, 2)", "both(1 2)", "(1 | 2)", "pipe(1 2)", "(. as $x | 1), 2", "both(bind.x(self 1) 2)", "(def f: 1; f) + 2", "add(def.f(1 call.f) 2)", "(label $l | 1) * 2", "mul(label.l(1) 2)", "(1)[0]", "index(1 0)", "(1).a", `index(1 "a")`, "(1)?", "try(1)", "(1 = 2)", "put(1 2)", "((1) + (2))", "add(1 2)",
	)
	refusesAll(t, map[string]int{"()": 1, "(1": -2, "(": -1, "[": -1, "[1": -2, "[1,": -3, ")": 0, "]": 0, "}": 0, "(]": 1, "[)": 1, "[}": 1, "(1]": 2, "[1)": 2, "[1}": 2, "(1))": 3, "[1]]": 3, "[1] 2": 4, "(1) 2": 4, "(1) (2)": 4, "[,]": 1, "[1,]": 3, "(,1)": 1, "(1 2)": 3, "[1 2]": 3, "[1;2]": 2, "(1;2)": 2, "[:]": 1, "[1:2]": 2, "(1:2)": 2})
}

func TestP17_1Entries(t *testing.T) {
	readsAll(t,
		"{}", "record", "{ }", "record", "{a}", `record("a" index(self "a"))`, "{a: 1}", `record("a" 1)`, `{"a"}`, `record("a" index(self "a"))`, `{"a": 1}`, `record("a" 1)`, "{$a}", `record("a" var.a)`, "{$a: 1}", `record("a" 1)`, "{(1): 2}", "record(1 2)", `{"a\(1)": 2}`, `record(join("a" 1 "") 2)`, `{"a\(1)b\(2)c": 3}`, `record(join("a" 1 "b" 2 "c") 3)`,
		"{a, b}", `record("a" index(self "a") "b" index(self "b"))`, `{a, "b", $c, if, d: 1, "e": 2, $f: 3, then: 4, (5): 6, "\(7)": 8}`, `record("a" index(self "a") "b" index(self "b") "c" var.c "if" index(self "if") "d" 1 "e" 2 "f" 3 "then" 4 5 6 join("" 7 "") 8)`,
		"{a: 1, a: 2}", `record("a" 1 "a" 2)`, `{""}`, `record("" index(self ""))`, `{"": 1}`, `record("" 1)`, `{"é\n"}`, `record("é\n" index(self "é\n"))`, "{(1, 2): 3}", "record(both(1 2) 3)", "{(. as $x | $x): 1}", "record(bind.x(self var.x) 1)", "{(def f: 1; f): 1}", "record(def.f(1 call.f) 1)", `{("a"): 1}`, `record("a" 1)`, "{((1)): 1}", "record(1 1)",
		"{a: 1 // 2}", `record("a" else(1 2))`, "{a: 1 // 2 // 3}", `record("a" else(1 else(2 3)))`, "{a: 1 or 2, b: 3 and 4}", `record("a" or(1 2) "b" and(3 4))`, "{a: 1 == 2}", `record("a" eq(1 2))`, "{a: 1 + 2 * 3}", `record("a" add(1 mul(2 3)))`, "{a: -1}", `record("a" neg(1))`, "{a: (1, 2)}", `record("a" both(1 2))`, "{a: (1 | 2)}", `record("a" pipe(1 2))`, "{a: (1 = 2)}", `record("a" put(1 2))`, "{a: .b.c[0]?}", `record("a" try(index(index(index(self "b") "c") 0)))`, "{a: {b: {c}}}", `record("a" record("b" record("c" index(self "c"))))`, "{a: [1, 2], b: 3}", `record("a" list(both(1 2)) "b" 3)`, "{a: f(1; 2), b: try 1 catch 2}", `record("a" call.f(1 2) "b" try(1 2))`, "{a: if 1 then 2 end, end: 3}", `record("a" if(1 2 self) "end" 3)`, "{a: reduce . as $x (1; 2)}", `record("a" reduce.x(self 1 2))`,
		"{a}.a", `index(record("a" index(self "a")) "a")`, "{a}[]", `each(record("a" index(self "a")))`, "{} | {}", "pipe(record record)", "{} as $x | 1", "bind.x(record 1)", `{"a":1}`, `record("a" 1)`, "{a:.a}", `record("a" index(self "a"))`,
	)
	for _, own := range ownWords() {
		reads(t, "{"+own+"}", `record("`+own+`" index(self "`+own+`"))`)
		reads(t, "{"+own+": 1}", `record("`+own+`" 1)`)
		reads(t, "{a, "+own+", b: 2, "+own+": 3}", `record("a" index(self "a") "`+own+`" index(self "`+own+`") "b" 2 "`+own+`" 3)`)
	}
	refusesAll(t, map[string]int{
		"{": -1, "{a": -2, "{a:": -3, "{a: 1": -5, "{a,": -3, "{a: 1,": -6, "{(": -2, "{(1": -3, "{(1)": -4, "{(1):": -5, "{(1): 2": -7, `{"\(1)"`: -7, `{"\(1)":`: -8, "{$a": -3, "{if": -3, `{"a"`: -4,
		"{(1)}": 4, "{(1), a}": 4, `{"\(1)"}`: 7, `{"\(1)", a}`: 7, "{a:1,}": 5, "{a,}": 3, "{,}": 1, "{,a}": 1, "{a,,b}": 3, "{a b}": 3, "{a 1}": 3, "{a: 1 2}": 6, "{a: 1 b: 2}": 6, "{.a}": 1, "{.}": 1, "{1}": 1, "{1: 2}": 1, "{..}": 1, "{[1]: 2}": 1, "{{}: 1}": 1, "{-a: 1}": 1, "{a.b}": 2, "{a[0]}": 2, "{a(1)}": 2, "{a?}": 2, "{$a.b}": 3, `{"a".b}`: 4, "{a = 1}": 3, "{a: }": 4, "{a: , b}": 4, "{a:: 1}": 3, "{a: 1: 2}": 5, "{: 1}": 1, "{a; b}": 2, "{a)": 2, "{a]": 2, "{]": 1, "{)": 1, "{(1]": 3, "{()}": 2, "{(1): 2, (3)}": 12, "{a | b}": 3, "{a: 1 | 2}": 6, "{a: 1 = 2}": 6, "{a: 1 |= 2}": 6, "{a: 1 //= 2}": 6, "{a: . as $x | 1}": 6, "{a: def f: 1; 2}": 4, "{a: label $l | 1}": 4, "{a: 1, 2}": 7, "{a: 1, .b}": 7, "{a: then}": 4, "}": 0, "{}}": 2, "{} {}": 3, "{} 1": 3, `{"a" "b"}`: 5, `{a "\(1)": 1}`: 3,
	})
}
