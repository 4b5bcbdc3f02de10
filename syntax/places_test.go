package syntax_test

import "testing"

// At of each part, told behind an @.
func TestP17_1Places(t *testing.T) {
	places(t,
		"1", "1@0", "  1", "1@2", "# x\n.", "self@4", "null", "null@0", " true", "true@1", `"t"`, `"t"@0`, "$x", "var.x@0", "..", "call.recurse@0", "f", "call.f@0",
		"-1", "neg@0(1@1)", " - - 1", "neg@1(neg@3(1@5))",
		"1 + 2", "add@2(1@0 2@4)", "1 - -2", "sub@2(1@0 neg@4(2@5))", "1+2*3", "add@1(1@0 mul@3(2@2 3@4))", "1 - 2 - 3", "sub@6(sub@2(1@0 2@4) 3@8)", "1 // 2 // 3", "else@2(1@0 else@7(2@5 3@10))", "1, 2, 3", "both@4(both@1(1@0 2@3) 3@6)",
		"1 | 2 | 3", "pipe@2(1@0 pipe@6(2@4 3@8))", "1 or 2 and 3", "or@2(1@0 and@7(2@5 3@11))", ". == 1", "eq@2(self@0 1@5)", ". |= 1", "update@2(self@0 1@5)", ".a //= 1", `elseto@3(index@0(self@0 "a"@0) 1@7)`,
		"1 as $x | 2", "bind.x@2(1@0 2@10)", ".a[0] as $x | 2", `bind.x@6(index@2(index@0(self@0 "a"@0) 0@3) 2@14)`, "1 | 2 as $x | 3", "pipe@2(1@0 bind.x@6(2@4 3@14))",
		"label $l | break $l", "label.l@0(break.l@11)", "1 | label $l | 2", "pipe@2(1@0 label.l@4(2@15))", "break $l", "break.l@0", " break  $l", "break.l@1",
		"def f: 1; 2", "def.f@0(1@7 2@10)", " def f(g; $x): 1; f(2)", "def.f<g $x>@1(1@15 call.f@18(2@20))", "1 | def f: 2; 3", "pipe@2(1@0 def.f@4(2@11 3@14))", "def f: 1; def g: 2; 3", "def.f@0(1@7 def.g@10(2@17 3@20))",
		"f(1; 2)", "call.f@0(1@2 2@5)", "  f ( 1 )", "call.f@2(1@6)",
	)
}

func TestP17_1PlacesOfSuffixes(t *testing.T) {
	places(t,
		".a", `index@0(self@0 "a"@0)`, "  .a", `index@2(self@2 "a"@2)`, ".a.b", `index@2(index@0(self@0 "a"@0) "b"@2)`, ". .a", `index@2(self@0 "a"@2)`, "1 .a", `index@2(1@0 "a"@2)`,
		`."a"`, `index@0(self@0 "a"@1)`, ` . "a"`, `index@1(self@1 "a"@3)`, `.a . "b"`, `index@3(index@0(self@0 "a"@0) "b"@5)`, `. . "b"`, `index@2(self@0 "b"@4)`, `."p\(1)q"`, `index@0(self@0 join@1("p"@1 1@5 "q"@6))`, `$x . "p\(1)"`, `index@3(var.x@0 join@5("p"@5 1@9 ""@10))`,
		".[1]", "index@1(self@0 1@2)", ". [ 1 ]", "index@2(self@0 1@4)", ".[]", "each@1(self@0)", ". []", "each@2(self@0)", ".[1:2]", "slice@1(self@0 1@2 2@4)", ".[1:]", "slice@1(self@0 1@2 none@0)", " . [ : 2]", "slice@3(self@1 none@0 2@7)", ".?", "try@1(self@0)", ". ? ?", "try@4(try@2(self@0))", ".a[0]?", `try@5(index@2(index@0(self@0 "a"@0) 0@3))`,
		"1 +  .a.b[0]?", `add@2(1@0 try@12(index@9(index@7(index@5(self@5 "a"@5) "b"@7) 0@10)))`,
		"try 1", "try@0(1@4)", "try 1 catch 2", "try@0(1@4 2@12)", " try try 1 catch 2 catch 3", "try@1(try@5(1@9 2@17) 3@25)", "1 + try .a", `add@2(1@0 try@4(index@8(self@8 "a"@8)))`, "try 1? catch 2", "try@0(try@5(1@4) 2@13)",
		"reduce . as $x (1; 2)", "reduce.x@0(self@7 1@16 2@19)", " foreach .[] as $x (1; 2; 3)", "foreach.x@1(each@10(self@9) 1@20 2@23 3@26)", "reduce reduce . as $x (1; 2) as $y (3; 4)", "reduce.y@0(reduce.x@7(self@14 1@23 2@26) 3@36 4@39)", "reduce . as $x (1; 2)[0]", "index@21(reduce.x@0(self@7 1@16 2@19) 0@22)",
	)
}

func TestP17_1PlacesOfTerms(t *testing.T) {
	places(t,
		"(1)", "1@1", "( ( .a ) )", `index@4(self@4 "a"@4)`, "(1 + 2) * 3", "mul@8(add@3(1@1 2@5) 3@10)", "(1 | 2) | 3", "pipe@8(pipe@3(1@1 2@5) 3@10)",
		"[]", "list@0", " [ 1 ]", "list@1(1@3)", "[1][0]", "index@3(list@0(1@1) 0@4)",
		"{}", "record@0", " {a}", `record@1("a"@2 index@2(self@2 "a"@2))`, `{ "a" }`, `record@0("a"@2 index@2(self@2 "a"@2))`, "{ $a }", `record@0("a"@2 var.a@2)`, "{ if }", `record@0("if"@2 index@2(self@2 "if"@2))`, "{a: 1}", `record@0("a"@1 1@4)`, "{$a: 1}", `record@0("a"@1 1@5)`, `{"a": 1, if: .b}`, `record@0("a"@1 1@6 "if"@9 index@13(self@13 "b"@13))`,
		"{(.c): 2}", `record@0(index@2(self@2 "c"@2) 2@7)`, "{( 1 + 2 ): 3}", "record@0(add@5(1@3 2@7) 3@12)", `{"p\(1)q": 2}`, `record@0(join@1("p"@1 1@5 "q"@6) 2@11)`, `{a, "b": 1, $x}`, `record@0("a"@1 index@1(self@1 "a"@1) "b"@4 1@9 "x"@12 var.x@12)`, "{a: 1 // 2}", `record@0("a"@1 else@6(1@4 2@9))`,
		`"p\(1)q"`, `join@0("p"@0 1@4 "q"@5)`, ` "\( 1 )\( 2 )z"`, `join@1(""@1 1@5 ""@7 2@11 "z"@13)`, `"\("\(1)")"`, `join@0(""@0 join@3(""@3 1@6 ""@7) ""@9)`, `"\(1 + 2)"`, `join@0(""@0 add@5(1@3 2@7) ""@8)`,
		"if 1 then 2 else 3 end", "if@0(1@3 2@10 3@17)", "if 1 then 2 end", "if@0(1@3 2@10 self@12)", " if 1 then 2   end", "if@1(1@4 2@11 self@15)", "if 1 then 2 elif 3 then 4 end", "if@0(1@3 2@10 if@12(3@17 4@24 self@26))", "if 1 then 2 elif 3 then 4 else 5 end", "if@0(1@3 2@10 if@12(3@17 4@24 5@31))", "if 1 then 2 elif 3 then 4 elif 5 then 6 end", "if@0(1@3 2@10 if@12(3@17 4@24 if@26(5@31 6@38 self@40)))", "if if 1 then 2 end then 3 end", "if@0(if@3(1@6 2@13 self@15) 3@24 self@26)", "1 + if 1 then 2 end", "add@2(1@0 if@4(1@7 2@14 self@16))",
	)
}
