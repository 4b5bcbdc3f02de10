package syntax_test

import (
	"strings"
	"testing"

	"hallmark/api"
	"hallmark/specimen"
	"hallmark/syntax"
)

// checkParse holds Parse of a text to this answer, its places too.
func checkParse(t *testing.T, s string, want api.Node, e api.Errno, at int) {
	t.Helper()
	got, gotE, gotAt := syntax.Parse(s)
	if !specimen.EqualFilters(got, want) || gotE != e || gotAt != at {
		t.Errorf("Parse(%.300q) = %.500s, %d, %d, want %.500s, %d, %d", s, specimen.ToldFilter(got, true), gotE, gotAt, specimen.ToldFilter(want, true), e, at)
	}
}

// checkWords holds Parse of a text against the chapter's words.
func checkWords(t *testing.T, s string) {
	t.Helper()
	want, e, at := answerOf(s)
	checkParse(t, s, want, e, at)
}

func refuses(t *testing.T, s string, e api.Errno, at int) {
	t.Helper()
	checkParse(t, s, api.Node{}, e, at)
}

// refusesAll holds texts to ErrPlace at a place; or to ErrEarly, if it is told as one below 0.
func refusesAll(t *testing.T, texts map[string]int) {
	t.Helper()
	for s, at := range texts {
		if at < 0 {
			refuses(t, s, api.ErrEarly, -at)
		} else {
			refuses(t, s, api.ErrPlace, at)
		}
	}
}

// reads holds a text to the filter that it is read as, told without places: alone, in brackets, and in all places where a pipe may stand.
func reads(t *testing.T, s, told string) {
	t.Helper()
	for _, around := range [][4]string{
		{"", "", "", ""}, {" ", "\n# x", "", ""}, {"(", ")", "", ""}, {"((", "))", "", ""}, {"1 | ", "", "pipe(1 ", ")"}, {". as $y | ", "", "bind.y(self ", ")"}, {"label $y | ", "", "label.y(", ")"},
		{"def g: ", "; 1", "def.g(", " 1)"}, {"def g: 1; ", "", "def.g(1 ", ")"}, {"[", "]", "list(", ")"}, {".[", "]", "index(self ", ")"}, {".[", ":]", "slice(self ", " none)"}, {".[:", "]", "slice(self none ", ")"}, {".[1:", "]", "slice(self 1 ", ")"},
		{"if ", " then 1 end", "if(", " 1 self)"}, {"if 1 then ", " end", "if(1 ", " self)"}, {"if 1 then 2 else ", " end", "if(1 2 ", ")"}, {"if 1 then 2 elif ", " then 3 end", "if(1 2 if(", " 3 self))"},
		{"reduce . as $y (", "; 1)", "reduce.y(self ", " 1)"}, {"reduce . as $y (1; ", ")", "reduce.y(self 1 ", ")"}, {"foreach . as $y (1; 2; ", ")", "foreach.y(self 1 2 ", ")"},
		{"g(", ")", "call.g(", ")"}, {"g(1; ", "; 2)", "call.g(1 ", " 2)"}, {`"\(`, `)"`, `join("" `, ` "")`}, {`"p\(1)q\(`, `)"`, `join("p" 1 "q" `, ` "")`}, {"{(", "): 1}", "record(", " 1)"}, {"{a: (", ")}", `record("a" `, ")"}, {`{"\(`, `)": 1}`, `record(join("" `, ` "") 1)`},
	} {
		n, e, at := syntax.Parse(around[0] + s + around[1])
		if got, want := specimen.ToldFilter(n, false), around[2]+told+around[3]; got != want || e != api.OK || at != 0 {
			t.Errorf("Parse(%q) = %s, %d, %d, want %s", around[0]+s+around[1], got, e, at, want)
		}
	}
}

// readsAll holds texts likewise, each ahead of what it is read as.
func readsAll(t *testing.T, rows ...string) {
	t.Helper()
	for i := 0; i < len(rows); i += 2 {
		reads(t, rows[i], rows[i+1])
	}
}

// places holds texts to what they are read as, told with places.
func places(t *testing.T, rows ...string) {
	t.Helper()
	for i := 0; i < len(rows); i += 2 {
		n, e, at := syntax.Parse(rows[i])
		if got := specimen.ToldFilter(n, true); got != rows[i+1] || e != api.OK || at != 0 {
			t.Errorf("Parse(%q) = %s, %d, %d, want %s", rows[i], got, e, at, rows[i+1])
		}
	}
}

func TestExamples(t *testing.T) {
	readsAll(t,
		".a", `index(self "a")`,
		"1 + 2 * 3", "add(1 mul(2 3))",
		"1, 2 | 3", "pipe(both(1 2) 3)",
		"1 | 2 | 3", "pipe(1 pipe(2 3))",
		".a // 1 // 2", `else(index(self "a") else(1 2))`,
		"-1 + 2", "add(neg(1) 2)",
		"..", "call.recurse",
		".[] as $x | $x, 1", "bind.x(each(self) both(var.x 1))",
		"if . then 1 end", "if(self 1 self)",
		"try .a catch 1 + 2", `add(try(index(self "a") 1) 2)`,
		".a?.b[1:]", `slice(index(try(index(self "a")) "b") 1 none)`,
		`{a, "b": 1, $x, (.c): 2, if: 3}`, `record("a" index(self "a") "b" 1 "x" var.x index(self "c") 2 "if" 3)`,
		`"p\(.a)q"`, `join("p" index(self "a") "q")`,
		"def f(g; $n): g; f(1; 2)", "def.f<g $n>(call.g call.f(1 2))",
		".a |= . + 1", `update(index(self "a") add(self 1))`,
	)
	for s, at := range map[string]int{"1 + . as $x | 2": 6, "1 = 2 = 3": 6, "1 < 2 < 3": 6, ".[:]": 3, "1 2": 2, "{(1)}": 4, "reduce 1 + 2 as $x (0; .)": 9} {
		refuses(t, s, api.ErrPlace, at)
	}
	for s, at := range map[string]int{"": 0, "#x": 2, "[1": 2, "def f: 1;": 9} {
		refuses(t, s, api.ErrEarly, at)
	}
	checkParse(t, strings.Repeat("(", 64)+"1"+strings.Repeat(")", 64), api.Node{Op: api.Const, At: 64, Value: specimen.Num("1")}, api.OK, 0)
	refuses(t, strings.Repeat("(", 65)+"1"+strings.Repeat(")", 65), api.ErrNest, 64)
	if got := []api.Errno{api.ErrEarly, api.ErrPlace, api.ErrNest, api.MaxNest}; got[0] != 170 || got[1] != 171 || got[2] != 172 || got[3] != 64 {
		t.Errorf("the errors and the limit are %v", got)
	}
}

// Each line of the grammar, with each thing that may be there and without it.
func TestP17_1Pipes(t *testing.T) {
	readsAll(t,
		"1", "1",
		"1 | 2", "pipe(1 2)",
		"1 | 2 | 3 | 4", "pipe(1 pipe(2 pipe(3 4)))",
		"(1 | 2) | 3", "pipe(pipe(1 2) 3)",
		"1 | 2, 3 | 4", "pipe(1 pipe(both(2 3) 4))",
		"label $l | 1", "label.l(1)",
		"label $l | 1 | 2, 3", "label.l(pipe(1 both(2 3)))",
		"label $l | label $m | break $l", "label.l(label.m(break.l))",
		"1 | label $l | 2", "pipe(1 label.l(2))",
		"break $l", "break.l",
		"break $l, break $map", "both(break.l break.map)",
		"break $l | 1", "pipe(break.l 1)",
		". as $x | 1", "bind.x(self 1)",
		". as $x | 1 | 2", "bind.x(self pipe(1 2))",
		". as $x | 1, 2", "bind.x(self both(1 2))",
		"1 as $x | 2 as $y | 3", "bind.x(1 bind.y(2 3))",
		"1 | 2 as $y | 3", "pipe(1 bind.y(2 3))",
		"(1 as $x | 2) as $y | 3", "bind.y(bind.x(1 2) 3)",
		"(1 as $x | 2) + 3", "add(bind.x(1 2) 3)",
		"1 as $x | def f: 2; label $l | 3", "bind.x(1 def.f(2 label.l(3)))",
	)
}

func TestP17_1Definitions(t *testing.T) {
	readsAll(t,
		"def f: 1; 2", "def.f(1 2)",
		"def f: 1 | 2; 3 | 4", "def.f(pipe(1 2) pipe(3 4))",
		"def f(g): g; 2", "def.f<g>(call.g 2)",
		"def f($g): $g; 2", "def.f<$g>(var.g 2)",
		"def f(a; $b; c; $d): 1; 2", "def.f<a $b c $d>(1 2)",
		"def f(a; a; $a): 1; 2", "def.f<a a $a>(1 2)",
		"def f: 1; def g: 2; 3", "def.f(1 def.g(2 3))",
		"def f: def g: 1; 2; 3", "def.f(def.g(1 2) 3)",
		"def f: def g: def h: 1; 2; 3; 4", "def.f(def.g(def.h(1 2) 3) 4)",
		"def f: . as $x | 1; 2", "def.f(bind.x(self 1) 2)",
		"def f: 1, 2; 3, 4", "def.f(both(1 2) both(3 4))",
		"1 | def f: 2; 3", "pipe(1 def.f(2 3))",
		"def f: 1; . as $x | 2", "def.f(1 bind.x(self 2))",
		"(def f: 1; 2) as $x | 3", "bind.x(def.f(1 2) 3)",
		"def recurse: 1; ..", "def.recurse(1 call.recurse)",
		"def _a9: 1; _a9", "def._a9(1 call._a9)",
		"g(def f: 1; 2)", "call.g(def.f(1 2))",
		"g(def f: 1; 2; 3)", "call.g(def.f(1 2) 3)",
		"g(1; def f(x): 2; 3; 4)", "call.g(1 def.f<x>(2 3) 4)",
		".[def f: 1; 2:3]", "slice(self def.f(1 2) 3)",
		"reduce . as $x (def f: 1; 2; 3)", "reduce.x(self def.f(1 2) 3)",
	)
}

func TestP17_1Calls(t *testing.T) {
	readsAll(t,
		"f", "call.f",
		"f(1)", "call.f(1)",
		"f (1)", "call.f(1)",
		"f(1; 2)", "call.f(1 2)",
		"f(1; 2; 3; 4)", "call.f(1 2 3 4)",
		"f(1, 2; 3 | 4)", "call.f(both(1 2) pipe(3 4))",
		"f(g(h(1); i); j)", "call.f(call.g(call.h(1) call.i) call.j)",
		"f(. as $x | 1; label $l | 2)", "call.f(bind.x(self 1) label.l(2))",
		"f((1))", "call.f(1)",
		"f | g", "pipe(call.f call.g)",
		"f[1]", "index(call.f 1)",
		"f.a", `index(call.f "a")`,
		"f(1).a", `index(call.f(1) "a")`,
		"f(1)[]", "each(call.f(1))",
		"f(1)?", "try(call.f(1))",
		"recurse", "call.recurse",
		"recurse(.[])", "call.recurse(each(self))",
		"nulls, iff, Null, True", "both(both(both(call.nulls call.iff) call.Null) call.True)",
	)
	for _, name := range []string{"x", "_", "_1", "aB9", "recurse", strings.Repeat("n", 1000)} {
		reads(t, name, "call."+name)
		reads(t, "$"+name, "var."+name)
		reads(t, "def "+name+"("+name+"; $"+name+"): 1; 2", "def."+name+"<"+name+" $"+name+">(1 2)")
	}
}

func TestP17_1Loops(t *testing.T) {
	readsAll(t,
		"reduce . as $x (1; 2)", "reduce.x(self 1 2)",
		"reduce .[] as $x (0; . + $x)", "reduce.x(each(self) 0 add(self var.x))",
		"reduce .a.b[]? as $x (1, 2; 3 | 4)", `reduce.x(try(each(index(index(self "a") "b"))) both(1 2) pipe(3 4))`,
		"reduce reduce . as $x (1; 2) as $y (3; 4)", "reduce.y(reduce.x(self 1 2) 3 4)",
		"reduce reduce . as $x (1; 2).a as $y (3; 4)", `reduce.y(index(reduce.x(self 1 2) "a") 3 4)`,
		"reduce foreach . as $x (1; 2; 3) as $y (3; 4)", "reduce.y(foreach.x(self 1 2 3) 3 4)",
		"reduce . as $x (1; 2) | 3", "pipe(reduce.x(self 1 2) 3)",
		"reduce . as $x (1; 2)[0]?", "try(index(reduce.x(self 1 2) 0))",
		"reduce . as $x (1; 2) as $y | 3", "bind.y(reduce.x(self 1 2) 3)",
		"reduce try . as $x (1; 2)", "reduce.x(try(self) 1 2)",
		"reduce try . catch 3 as $x (1; 2)", "reduce.x(try(self 3) 1 2)",
		"reduce (1 + 2) as $x (1; 2)", "reduce.x(add(1 2) 1 2)",
		"reduce range(0; 9) as $x (0; .)", "reduce.x(call.range(0 9) 0 self)",
		"1 + reduce . as $x (1; 2) * 3", "add(1 mul(reduce.x(self 1 2) 3))",
		"foreach . as $x (1; 2)", "foreach.x(self 1 2)",
		"foreach . as $x (1; 2; 3)", "foreach.x(self 1 2 3)",
		"foreach .[] as $x (0; . + $x; [.])", "foreach.x(each(self) 0 add(self var.x) list(self))",
		"foreach foreach . as $x (1; 2) as $y (3; 4; 5)", "foreach.y(foreach.x(self 1 2) 3 4 5)",
		"foreach . as $x (1; 2).a", `index(foreach.x(self 1 2) "a")`,
		"try reduce . as $x (1; 2) catch 3", "try(reduce.x(self 1 2) 3)",
		"try foreach . as $x (1; 2)? catch 3", "try(try(foreach.x(self 1 2)) 3)",
		"-reduce . as $x (1; 2)", "neg(reduce.x(self 1 2))",
	)
}

func TestP17_1Choices(t *testing.T) {
	readsAll(t,
		"if 1 then 2 end", "if(1 2 self)",
		"if 1 then 2 else 3 end", "if(1 2 3)",
		"if 1 then 2 elif 3 then 4 end", "if(1 2 if(3 4 self))",
		"if 1 then 2 elif 3 then 4 else 5 end", "if(1 2 if(3 4 5))",
		"if 1 then 2 elif 3 then 4 elif 5 then 6 end", "if(1 2 if(3 4 if(5 6 self)))",
		"if 1 then 2 elif 3 then 4 elif 5 then 6 elif 7 then 8 else 9 end", "if(1 2 if(3 4 if(5 6 if(7 8 9))))",
		"if 1, 2 then 3 | 4 else 5 as $x | 6 end", "if(both(1 2) pipe(3 4) bind.x(5 6))",
		"if if 1 then 2 end then if 3 then 4 end else if 5 then 6 end end", "if(if(1 2 self) if(3 4 self) if(5 6 self))",
		"if 1 then 2 else if 3 then 4 else 5 end end", "if(1 2 if(3 4 5))",
		"if 1 then if 2 then 3 elif 4 then 5 end elif 6 then 7 end", "if(1 if(2 3 if(4 5 self)) if(6 7 self))",
		"if 1 then 2 end | 3", "pipe(if(1 2 self) 3)",
		"if 1 then 2 end.a", `index(if(1 2 self) "a")`,
		"if 1 then 2 end[0]?", "try(index(if(1 2 self) 0))",
		"if 1 then 2 end as $x | 3", "bind.x(if(1 2 self) 3)",
		"1 + if 1 then 2 end + 3", "add(add(1 if(1 2 self)) 3)",
		"-if 1 then 2 end", "neg(if(1 2 self))",
		"if def f: 1; f then label $l | 2 end", "if(def.f(1 call.f) label.l(2) self)",
	)
}

func TestP17_1Numbers(t *testing.T) {
	for _, s := range []string{"0", "1", "9", "10", "1000000000", "9223372036854775807", "9223372036854775808", "18446744073709551616", "1" + strings.Repeat("0", 400), strings.Repeat("7", 10000)} {
		reads(t, s, s)
		reads(t, "-"+s, "neg("+s+")")
		reads(t, "- "+s+" + "+s, "add(neg("+s+") "+s+")")
		reads(t, s+" - -"+s, "sub("+s+" neg("+s+"))")
		reads(t, s+"-"+s, "sub("+s+" "+s+")")
		reads(t, s+" .a", "index("+s+` "a")`)
		reads(t, s+"[0]?", "try(index("+s+" 0))")
	}
	readsAll(t,
		"null", "null", "true", "true", "false", "false",
		"null, true, false", "both(both(null true) false)",
		"null.a", `index(null "a")`,
		"true[0]", "index(true 0)",
		"false?", "try(false)",
		"-null", "neg(null)",
	)
}

func TestP17_1Signs(t *testing.T) {
	readsAll(t,
		"-1", "neg(1)", "- 1", "neg(1)", "--1", "neg(neg(1))", "- - - 1", "neg(neg(neg(1)))",
		"-.", "neg(self)", "-.a", `neg(index(self "a"))`, "-.a.b?", `neg(try(index(index(self "a") "b")))`, "-$x", "neg(var.x)", "-f(1)", "neg(call.f(1))", "-(1 + 2)", "neg(add(1 2))", "-[1]", "neg(list(1))",
		"-1 * -2", "mul(neg(1) neg(2))", "1 - - - 2", "sub(1 neg(neg(2)))", "1 * -2 * 3", "mul(mul(1 neg(2)) 3)",
		"-1 | -2", "pipe(neg(1) neg(2))", "-1, -2", "both(neg(1) neg(2))", "-1 // -2", "else(neg(1) neg(2))", "-1 = -2", "put(neg(1) neg(2))",
		"-try 1", "neg(try(1))", "- try 1 catch 2", "neg(try(1 2))", "-..", "neg(call.recurse)", "-1?", "neg(try(1))", `-"a"`, `neg("a")`,
		"[-1]", "list(neg(1))", ".[-1]", "index(self neg(1))", ".[-1:-2]", "slice(self neg(1) neg(2))", "{a: -1}", `record("a" neg(1))`,
	)
	refuses(t, "-", api.ErrEarly, 1)
	refuses(t, "- -", api.ErrEarly, 3)
	refuses(t, "1 -", api.ErrEarly, 3)
	for s, at := range map[string]int{"-)": 1, "- *": 2, "-def f: 1; 2": 1, "-label $x | 1": 1, "+1": 0, "1 + +1": 4, "- ,": 2, "-|": 1, "-1 as $x | 2": 3, "- - . as $x | 2": 6, "(-.a as $x | 2)": 5, "1 - 2 as $x | 3": 6} {
		refuses(t, s, api.ErrPlace, at)
	}
}

// binding are the operations from the loosest on, each line with how it groups.
func binding() [][]string {
	return [][]string{
		{"left", ", both"},
		{"no", "= put", "|= update", "+= addto", "-= subto", "*= multo", "/= divto", "%= modto", "//= elseto"},
		{"right", "// else"},
		{"left", "or or"},
		{"left", "and and"},
		{"no", "== eq", "!= ne", "< lt", "<= le", "> gt", ">= ge"},
		{"left", "+ add", "- sub"},
		{"left", "* mul", "/ div", "% mod"},
	}
}

// binary is an operation: its word, what it is told as, how tightly it binds, how it groups.
type binary struct {
	sign, told string
	binds      int
	groups     string
}

func binaries() []binary {
	out := []binary{{"|", "pipe", -1, "right"}}
	for i, line := range binding() {
		for _, pair := range line[1:] {
			sign, told, _ := strings.Cut(pair, " ")
			out = append(out, binary{sign, told, i, line[0]})
		}
	}
	return out
}

// Each operation alone, and beside each other one: how tightly it binds, from which side it groups.
func TestP17_1Operations(t *testing.T) {
	if many := len(binaries()); many != 24 {
		t.Errorf("%d operations", many)
	}
	for _, a := range binaries() {
		reads(t, "1 "+a.sign+" 2", a.told+"(1 2)")
		reads(t, ".a "+a.sign+" .b", a.told+`(index(self "a") index(self "b"))`)
		reads(t, "-1 "+a.sign+" -2", a.told+"(neg(1) neg(2))")
		reads(t, "try 1 "+a.sign+" try 2 catch 3", a.told+"(try(1) try(2 3))")
		for _, b := range binaries() {
			s := "1 " + a.sign + " 2 " + b.sign + " 3"
			fromLeft := b.told + "(" + a.told + "(1 2) 3)"
			fromRight := a.told + "(1 " + b.told + "(2 3))"
			switch {
			case a.binds > b.binds || a.binds == b.binds && a.groups == "left":
				reads(t, s, fromLeft)
			case a.binds < b.binds || a.groups == "right":
				reads(t, s, fromRight)
			default:
				refuses(t, s, api.ErrPlace, len(a.sign)+5)
			}
			reads(t, "(1 "+a.sign+" 2) "+b.sign+" 3", fromLeft)
			reads(t, "1 "+a.sign+" (2 "+b.sign+" 3)", fromRight)
		}
	}
}

// Three operations beside one another, as the chapter's words have it.
func TestP17_1ThreeOperations(t *testing.T) {
	all := binaries()
	for _, a := range all {
		for _, b := range all {
			for _, c := range []binary{all[0], all[1], all[2], all[10], all[11], all[12], all[13], all[19], all[21]} {
				checkWords(t, "1 "+a.sign+" 2 "+b.sign+" 3 "+c.sign+" -4")
			}
		}
	}
}

// A second comparison and a second change are refused at their place, whatever stands between that binds more tightly.
func TestP17_1SecondOnes(t *testing.T) {
	for _, a := range binaries() {
		for _, b := range binaries() {
			if a.binds != b.binds || a.groups != "no" {
				continue
			}
			for _, between := range []string{"2", "-2", "2 + 3", "2 * 3 - 4", ".a[0]?", "f(1)", "try 1 catch 2", "(1 == 2)", "(1 = 2)", "[. < 2]"} {
				s := "1 " + a.sign + " " + between + " "
				refuses(t, s+b.sign+" 5", api.ErrPlace, len(s))
				refuses(t, "["+s+b.sign+" 5]", api.ErrPlace, 1+len(s))
				refuses(t, "1 | "+s+b.sign, api.ErrPlace, 4+len(s))
				refuses(t, ". as $x | "+s+b.sign+" 5", api.ErrPlace, 10+len(s))
			}
		}
	}
	readsAll(t,
		"1 == 2 and 3 == 4", "and(eq(1 2) eq(3 4))",
		"1 < 2 or 3 > 4 and 5 <= 6", "or(lt(1 2) and(gt(3 4) le(5 6)))",
		"1 = 2, 3 = 4", "both(put(1 2) put(3 4))",
		"1 = 2 | 3 |= 4", "pipe(put(1 2) update(3 4))",
		"1 // 2 = 3 // 4", "put(else(1 2) else(3 4))",
		"1 == 2 // 3 == 4 // 5", "else(eq(1 2) else(eq(3 4) 5))",
		"1 == 2 = 3 != 4", "put(eq(1 2) ne(3 4))",
		"1 + 2 == 3 * 4", "eq(add(1 2) mul(3 4))",
		"1 - 2 - 3 - 4", "sub(sub(sub(1 2) 3) 4)",
		"1 // 2 // 3 // 4", "else(1 else(2 else(3 4)))",
		"1 // 2, 3 // 4", "both(else(1 2) else(3 4))",
		"1 // 2 // 3 = 4 // 5 // 6", "put(else(1 else(2 3)) else(4 else(5 6)))",
		"1 or 2 // 3 and 4 // 5", "else(or(1 2) else(and(3 4) 5))",
		"1, 2, 3, 4", "both(both(both(1 2) 3) 4)",
		"1 * 2 % 3 / 4", "div(mod(mul(1 2) 3) 4)",
		"(1 < 2) < 3", "lt(lt(1 2) 3)",
		"1 = (2 = 3)", "put(1 put(2 3))",
	)
	refuses(t, "1 = 2 // 3 += 4", api.ErrPlace, 11)
	refuses(t, "1 = 2 or 3 = 4", api.ErrPlace, 11)
	refuses(t, "1 and 2 < 3 == 4", api.ErrPlace, 12)
	refuses(t, "1 < 2 + 3 < 4", api.ErrPlace, 10)
	refuses(t, "{a: 1 < 2 < 3}", api.ErrPlace, 10)
}
