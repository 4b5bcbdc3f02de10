package show_test

import (
	"encoding/json"
	"fmt"
	"math/rand"
	"slices"
	"strings"
	"testing"

	"hallmark/api"
	"hallmark/show"
	"hallmark/specimen"
	"hallmark/syntax"
	"hallmark/utf"
)

func pickOf(seed int64) specimen.Source { return rand.New(rand.NewSource(seed)).Intn }

func parsed(t *testing.T, s string) api.Node {
	t.Helper()
	n, e, at := syntax.Parse(s)
	if e != api.OK {
		t.Fatalf("Parse(%.300q): %d at %d", s, e, at)
	}
	return n
}

// tells holds Text of a filter to this text, and the text to being read as the filter.
func tells(t *testing.T, n api.Node, want string) {
	t.Helper()
	if got, e := show.Text(n); got != want || e != api.OK {
		t.Errorf("Text(%.500s) = %.500q, %d, want %.500q", specimen.ToldFilter(n, false), got, e, want)
	}
	if again := parsed(t, want); !specimen.AlikeFilters(again, n) {
		t.Errorf("Parse(%.300q) = %.500s, want %.500s", want, specimen.ToldFilter(again, false), specimen.ToldFilter(n, false))
	}
}

// rewrites holds Text of what texts are read as to others, each behind its one.
func rewrites(t *testing.T, rows ...string) {
	t.Helper()
	for i := 0; i < len(rows); i += 2 {
		tells(t, parsed(t, rows[i]), rows[i+1])
	}
}

// keeps holds texts to being Text of what they are read as.
func keeps(t *testing.T, texts ...string) {
	t.Helper()
	for _, s := range texts {
		tells(t, parsed(t, s), s)
	}
}

func refuses(t *testing.T, n api.Node) {
	t.Helper()
	if got, e := show.Text(n); got != "" || e != api.ErrShape {
		t.Errorf("Text(%.500s) = %.300q, %d", specimen.ToldFilter(n, false), got, e)
	}
}

func keyIs(t *testing.T, s, want string, e api.Errno) {
	t.Helper()
	if got, gotE := show.Key(s); got != want || gotE != e {
		t.Errorf("Key(%q) = %q, %d, want %q, %d", s, got, gotE, want, e)
	}
}

func TestExamples(t *testing.T) {
	rewrites(t,
		"1+2*3", "1 + 2 * 3",
		"(1+2)*3", "(1 + 2) * 3",
		".a.b[0]?", ".a.b[0]?",
		`.["a b"]`, `.["a b"]`,
		"(1).a", "(1).a",
		"-(-1)", "- -1",
		"1|(2|3)", "1 | 2 | 3",
		"(1|2)|3", "(1 | 2) | 3",
		"{a,$x,(.c):(1,2)}", "{a: .a, x: $x, (.c): (1, 2)}",
		"if . then 1 end", "if . then 1 else . end",
		"try .a", ".a?",
		"(try .a catch .b).c", "(try .a catch .b).c",
		"..", "recurse",
		".end", ".end",
	)
	keyIs(t, "a", "a", api.OK)
	keyIs(t, "end", "end", api.OK)
	keyIs(t, "a b", `"a b"`, api.OK)
	keyIs(t, "\xff", "", api.ErrShape)
	if api.ErrShape != 1 {
		t.Errorf("ErrShape is %d", api.ErrShape)
	}
}

func ownWords() []string {
	return strings.Fields("def if then elif else end as reduce foreach try catch and or label break null true false")
}

// oddTexts have a quote, a backslash, control bytes, and runes of every length.
func oddTexts() []string {
	out := []string{"", " ", "\"", "\\", "\\(", "\\(1)", ")", "\"\\(", "a\"b\\c", "\x7f", "é", "ß\u07ff", "\u0800", "€", "\u2028", "\uffff", "\U00010000", "😀", "\U0010ffff", "#", "# x\n", "$x", ".a", "a b", "a-b", "1", "1a", "a.b", "é1", "aé", "\u0000", "\u00a0", strings.Repeat("\"\\\n", 40)}
	for b := range 32 {
		out = append(out, string(rune(b)), fmt.Sprintf("a%cb", b))
	}
	return out
}

func TestP18_1Names(t *testing.T) {
	for _, s := range append(ownWords(), "a", "z", "A", "Z", "_", "__", "a1", "_0", "iff", "Z_9", "recurse", "reduces", strings.Repeat("x9_", 1000)) {
		keyIs(t, s, s, api.OK)
	}
}

func TestP18_1Quotes(t *testing.T) {
	for s, want := range map[string]string{
		"": `""`, " ": `" "`, "1": `"1"`, "1a": `"1a"`, "a-b": `"a-b"`, "a ": `"a "`, " a": `" a"`, "$x": `"$x"`, ".a": `".a"`, "a.b": `"a.b"`, "é": `"é"`, "aé": `"aé"`, "\"": `"\""`, "\\": `"\\"`, "\\(1)": `"\\(1)"`, "\n": `"\n"`, "a\n": `"a\n"`, "\x00": `"\u0000"`, "\x1f": `"\u001f"`, "😀": `"😀"`, "@": `"@"`, "a`": "\"a`\"", "a[": `"a["`, "a{": `"a{"`, "a/": `"a/"`, "a:": `"a:"`,
	} {
		keyIs(t, s, want, api.OK)
	}
	for _, s := range oddTexts() {
		got, e := show.Key(s)
		var back string
		if err := json.Unmarshal([]byte(got), &back); err != nil || back != s || e != api.OK || got != utf.Quote(s) {
			t.Errorf("Key(%q) = %q, %d, which says %q", s, got, e, back)
		}
	}
}

func TestP18_1NoUTF8(t *testing.T) {
	for _, s := range []string{"\xff", "\x80", "a\x80", "\xc3", "\xc0\x80", "\xed\xa0\x80", "\xf4\x90\x80\x80", "\xe2\x82", "end\xff", "\xffa", "\"\xfe\"", "é\xbf", strings.Repeat("a", 1000) + "\xc3"} {
		keyIs(t, s, "", api.ErrShape)
	}
}

// All texts of one and of two bytes.
func TestP18_1ShortTexts(t *testing.T) {
	for a := range 256 {
		one := string([]byte{byte(a)})
		want, e := keyOf(one)
		keyIs(t, one, want, e)
		for b := range 256 {
			two := one + string([]byte{byte(b)})
			want, e := keyOf(two)
			keyIs(t, two, want, e)
		}
	}
}

// A key is read in an entry as what it says.
func TestP18_1ReadAgain(t *testing.T) {
	for _, s := range slices.Concat(ownWords(), oddTexts(), specimen.Names()) {
		key, _ := show.Key(s)
		want := specimen.Part(api.Record, specimen.Constant(specimen.Text(s)), specimen.Part(api.Self))
		if got := parsed(t, "{"+key+": .}"); !syntax.Same(got, want) {
			t.Errorf("Key(%q) = %q, read as %s", s, key, specimen.ToldFilter(got, false))
		}
	}
}

func call(name string) api.Node { return specimen.NamedPart(api.Call, name) }

func text(s string) api.Node { return specimen.Constant(specimen.Text(s)) }

// A filter of every Op, with each thing that it may have and without it.
func TestP18_2EveryOp(t *testing.T) {
	a, b, c, d, none := call("a"), call("b"), call("c"), call("d"), api.Node{}
	part, named := specimen.Part, specimen.NamedPart
	for _, row := range []struct {
		n    api.Node
		want string
	}{
		{part(api.Self), "."},
		{specimen.Constant(api.Value{}), "null"}, {specimen.Constant(specimen.Kind(api.False)), "false"}, {specimen.Constant(specimen.Kind(api.True)), "true"},
		{specimen.Constant(specimen.Num("0")), "0"}, {text(""), `""`}, {text("x"), `"x"`},
		{part(api.Join, text("p"), a, text("q")), `"p\(a)q"`}, {part(api.Join, text(""), a, text(""), b, text("")), `"\(a)\(b)"`},
		{part(api.List), "[]"}, {part(api.List, a), "[a]"},
		{part(api.Record), "{}"}, {part(api.Record, text("x"), a), "{x: a}"}, {part(api.Record, text("x"), a, text("y"), b, a, c), "{x: a, y: b, (a): c}"},
		{named(api.Var, "x"), "$x"}, {named(api.Break, "x"), "break $x"},
		{part(api.Index, a, b), "a[b]"}, {part(api.Index, a, text("x")), "a.x"}, {part(api.Index, a, text("x y")), `a["x y"]`},
		{part(api.Slice, a, b, c), "a[b:c]"}, {part(api.Slice, a, none, c), "a[:c]"}, {part(api.Slice, a, b, none), "a[b:]"},
		{part(api.Each, a), "a[]"}, {part(api.Try, a), "a?"}, {part(api.Try, a, b), "try a catch b"}, {part(api.Neg, a), "-a"},
		{part(api.Pipe, a, b), "a | b"}, {part(api.Both, a, b), "a, b"},
		{part(api.Add, a, b), "a + b"}, {part(api.Sub, a, b), "a - b"}, {part(api.Mul, a, b), "a * b"}, {part(api.Div, a, b), "a / b"}, {part(api.Mod, a, b), "a % b"},
		{part(api.Eq, a, b), "a == b"}, {part(api.Ne, a, b), "a != b"}, {part(api.Lt, a, b), "a < b"}, {part(api.Le, a, b), "a <= b"}, {part(api.Gt, a, b), "a > b"}, {part(api.Ge, a, b), "a >= b"},
		{part(api.And, a, b), "a and b"}, {part(api.Or, a, b), "a or b"}, {part(api.Else, a, b), "a // b"},
		{part(api.If, a, b, c), "if a then b else c end"}, {part(api.If, a, b, part(api.Self)), "if a then b else . end"}, {part(api.If, a, b, part(api.If, b, c, d)), "if a then b else if b then c else d end end"},
		{named(api.Bind, "x", a, b), "a as $x | b"}, {named(api.Reduce, "x", a, b, c), "reduce a as $x (b; c)"},
		{named(api.Foreach, "x", a, b, c), "foreach a as $x (b; c)"}, {named(api.Foreach, "x", a, b, c, d), "foreach a as $x (b; c; d)"},
		{specimen.Definition("f", nil, a, b), "def f: a; b"}, {specimen.Definition("f", []string{"g"}, a, b), "def f(g): a; b"}, {specimen.Definition("f", []string{"$g"}, a, b), "def f($g): a; b"}, {specimen.Definition("f", []string{"g", "$h", "i"}, a, b), "def f(g; $h; i): a; b"},
		{a, "a"}, {named(api.Call, "f", a), "f(a)"}, {named(api.Call, "f", a, b, c), "f(a; b; c)"}, {call("recurse"), "recurse"},
		{named(api.Label, "x", a), "label $x | a"},
		{part(api.Put, a, b), "a = b"}, {part(api.Update, a, b), "a |= b"}, {part(api.AddTo, a, b), "a += b"}, {part(api.SubTo, a, b), "a -= b"}, {part(api.MulTo, a, b), "a *= b"}, {part(api.DivTo, a, b), "a /= b"}, {part(api.ModTo, a, b), "a %= b"}, {part(api.ElseTo, a, b), "a //= b"},
	} {
		tells(t, row.n, row.want)
	}
}

// partsByLooseness are texts of parts of each looseness, by its number.
func partsByLooseness() [][]string {
	return [][]string{
		{"1 | 2", "1 as $x | 2", "def f: 1; 2", "label $l | 1"},
		{"1, 2"},
		{"1 = 2", "1 |= 2", "1 += 2", "1 -= 2", "1 *= 2", "1 /= 2", "1 %= 2", "1 //= 2"},
		{"1 // 2"},
		{"1 or 2"},
		{"1 and 2"},
		{"1 == 2", "1 != 2", "1 < 2", "1 <= 2", "1 > 2", "1 >= 2"},
		{"1 + 2", "1 - 2"},
		{"1 * 2", "1 / 2", "1 % 2"},
		{"-1", "try 1 catch 2"},
		{"null", "true", "false", `"a t"`, `"p\(1)q"`, "[]", "[1]", "{}", "{a: 1}", "$x", "break $x", ".a", "$x[0]", `$x["a b"]`, "$x[1:]", "$x[:1]", "$x[1:2]", "$x[]", "$x?", "(1)?", "if 1 then 2 else 3 end", "reduce 1 as $x (2; 3)", "foreach 1 as $x (2; 3)", "foreach 1 as $x (2; 3; 4)", "f", "f(1)", "f(1; 2)"},
	}
}

// Each kind of part as each kid of each Op: in brackets, where it is looser than may be there.
func TestP18_2Brackets(t *testing.T) {
	places := []struct {
		text string // % is the kid
		k    int
	}{
		{"% | .", 1}, {". | %", 0}, {"%, .", 1}, {"., %", 2},
		{"% = .", 3}, {". = %", 3}, {"% |= .", 3}, {". |= %", 3}, {"% += .", 3}, {". += %", 3}, {"% -= .", 3}, {". -= %", 3}, {"% *= .", 3}, {". *= %", 3}, {"% /= .", 3}, {". /= %", 3}, {"% %= .", 3}, {". %= %", 3}, {"% //= .", 3}, {". //= %", 3},
		{"% // .", 4}, {". // %", 3}, {"% or .", 4}, {". or %", 5}, {"% and .", 5}, {". and %", 6},
		{"% == .", 7}, {". == %", 7}, {"% != .", 7}, {". != %", 7}, {"% < .", 7}, {". < %", 7}, {"% <= .", 7}, {". <= %", 7}, {"% > .", 7}, {". > %", 7}, {"% >= .", 7}, {". >= %", 7},
		{"% + .", 7}, {". + %", 8}, {"% - .", 7}, {". - %", 8}, {"% * .", 8}, {". * %", 9}, {"% / .", 8}, {". / %", 9}, {"% % .", 8}, {". % %", 9},
		{"[%]", 0}, {"{a: %}", 3}, {"{a: ., b: %, c: .}", 3}, {"{a: %, b: .}", 3}, {`"\(%)"`, 0}, {`"p\(.)q\(%)r\(.)"`, 0},
		{"%.a", 10}, {"%[0]", 10}, {`%["a b"]`, 10}, {"$x[%]", 0}, {"%[1:2]", 10}, {"%[:2]", 10}, {"%[1:]", 10}, {".[%:2]", 0}, {".[1:%]", 0}, {".[%:]", 0}, {".[:%]", 0}, {"%[]", 10}, {"%?", 10},
		{"try % catch .", 10}, {"try . catch %", 10},
		{"if % then . else . end", 0}, {"if . then % else . end", 0}, {"if . then . else % end", 0},
		{"% as $y | .", 10}, {". as $y | %", 0}, {"reduce % as $y (.; .)", 10}, {"reduce . as $y (%; .)", 0}, {"reduce . as $y (.; %)", 0},
		{"foreach % as $y (.; .)", 10}, {"foreach . as $y (%; .)", 0}, {"foreach . as $y (.; %)", 0}, {"foreach % as $y (.; .; .)", 10}, {"foreach . as $y (%; .; .)", 0}, {"foreach . as $y (.; %; .)", 0}, {"foreach . as $y (.; .; %)", 0},
		{"def g: %; .", 0}, {"def g: .; %", 0}, {"def g(a; $b): %; .", 0}, {"def g(a; $b): .; %", 0}, {"g(%)", 0}, {"g(%; .)", 0}, {"g(.; %; .)", 0}, {"label $y | %", 0},
	}
	for loose, parts := range partsByLooseness() {
		for _, part := range parts {
			for _, place := range places {
				at := strings.Index(place.text, "%")
				if strings.Count(place.text, "%") > 1 && place.text[0] != '%' { // the sign of Mod or ModTo stands ahead
					at = strings.LastIndex(place.text, "%")
				}
				front, behind := place.text[:at], place.text[at+1:]
				held := "(" + part + ")"
				n := parsed(t, front+held+behind)
				if loose >= place.k {
					held = part
				}
				tells(t, n, front+held+behind)
			}
		}
	}
}

// Operations that group from the left, from the right, and not at all.
func TestP18_2Groups(t *testing.T) {
	for _, sign := range []string{",", " or", " and", " +", " -", " *", " /", " %"} {
		rewrites(t, fmt.Sprintf("(1%s 2)%s 3", sign, sign), fmt.Sprintf("1%s 2%s 3", sign, sign))
		keeps(t, fmt.Sprintf("1%s (2%s 3)", sign, sign), fmt.Sprintf("1%s 2%s 3%s 4", sign, sign, sign), fmt.Sprintf("1%s (2%s 3)%s 4", sign, sign, sign))
	}
	for _, sign := range []string{"|", "//"} {
		rewrites(t, fmt.Sprintf("1 %s (2 %s 3)", sign, sign), fmt.Sprintf("1 %s 2 %s 3", sign, sign))
		keeps(t, fmt.Sprintf("(1 %s 2) %s 3", sign, sign), fmt.Sprintf("1 %s 2 %s 3 %s 4", sign, sign, sign), fmt.Sprintf("1 %s (2 %s 3) %s 4", sign, sign, sign))
	}
	for _, signs := range []string{"== != < <= > >=", "= |= += -= *= /= %= //="} {
		for _, a := range strings.Fields(signs) {
			for _, b := range strings.Fields(signs) {
				keeps(t, fmt.Sprintf("(1 %s 2) %s 3", a, b), fmt.Sprintf("1 %s (2 %s 3)", a, b))
			}
		}
	}
	keeps(t, "1 - 2 + 3", "1 - (2 + 3)", "1 * 2 / 3 % 4", "1 * (2 / 3)", "1 + 2 * 3 - 4", "1 or 2 and 3 or 4", "(1 or 2) and 3", "1, 2 | 3, 4", "1, (2 | 3), 4", "1 // 2 = 3 // 4", "1 == 2 and 3 != 4", "(1 as $x | 2) | 3", "1 | 2 as $x | 3 | 4", "label $l | def f: 1; 2 | 3")
}

// A sign ahead of a sign, and of what begins with one in another way.
func TestP18_2Neg(t *testing.T) {
	rewrites(t,
		"-1", "-1", "--1", "- -1", "---1", "- - -1", "-(-1)", "- -1", "-(-(-(.)))", "- - -.",
		"-(-1*2)", "-(-1 * 2)", "-(-1+2)", "-(-1 + 2)", "-1*2", "-1 * 2", "-(1*2)", "-(1 * 2)", "-(-1,2)", "-(-1, 2)", "-((-1).a)", "-(-1).a", "-((-1)[0])", "-(-1)[0]", "-((-1)?)", "-(-1)?",
		"-.a", "-.a", "-(.a)", "-.a", "(-.).a", "(-.).a", "-(try (-1) catch 2)", "-try (-1) catch 2", "-try 1 catch 2", "-try 1 catch 2", "(-try 1 catch 2).a", "(-try 1 catch 2).a",
		"1- -2", "1 - -2", "1-(-2)", "1 - -2", "1-(-(-2))", "1 - - -2", "-1-1", "-1 - 1", "-(-1-1)", "-(-1 - 1)", "-[-1]", "-[-1]", `-"-"`, `-"-"`, `-"\(-1)"`, `-"\(-1)"`,
		"(-(-1))as $x|2", "(- -1) as $x | 2", "(-1) as $x|-$x", "(-1) as $x | -$x", ".[-1:-2]", ".[-1:-2]", ".[-1]", ".[-1]", "-(1|2)", "-(1 | 2)", "-(-1|2)", "-(-1 | 2)", "-null", "-null", "-{}", "-{}", "-$x", "-$x", "-if . then -1 else -2 end", "-if . then -1 else -2 end",
	)
}

// What stands ahead of a suffix.
func TestP18_2Bases(t *testing.T) {
	for _, suffix := range []string{".a", ".end", `["a b"]`, `[""]`, "[0]", "[.a]", "[1, 2]", "[1:2]", "[:2]", "[1:]", "[]", "?"} {
		for _, base := range []string{"(1)", "(0)", "(123456789012345678901234567890)", "null", "true", "false", `"t"`, `""`, `"p\(1)q"`, "$x", "f", "f(1)", "recurse", "[]", "[1]", "{}", "{a: 1}", ".a", ".a.b", ".[0]", ".[1:]", ".[]", ".?", "(-1)", "(1 + 2)", "(1 | 2)", "(1, 2)", "(try 1 catch 2)", "(1 as $x | 2)", "(def f: 1; 2)", "(label $x | 1)", "(. = 1)", "(1 // 2)", "(1 or 2)", "(1 and 2)", "(1 < 2)", "(1 * 2)", "if 1 then 2 else 3 end", "reduce 1 as $x (2; 3)", "foreach 1 as $x (2; 3)", "break $x", "(1).a", "(1)?"} {
			keeps(t, base+suffix)
			tells(t, parsed(t, "("+base+")"+suffix), base+suffix)
		}
	}
	rewrites(t, "(.)[0]", ".[0]", "(.)?", ".?", "(.)[]", ".[]", "(.)[1:]", ".[1:]", "(.).a", ".a", `."a"`, ".a", `."a b"`, `.["a b"]`, `(1)."a"`, "(1).a", `$x."a\(1)"`, `$x["a\(1)"]`, `."\("a")"`, `.["\("a")"]`, "1?", "(1)?", "1[0]", "(1)[0]", "try 1", "(1)?", "try try 1", "(1)??", "(1??)?", "(1)???", "try .a?", ".a??")
}

func TestP18_2Fields(t *testing.T) {
	for _, s := range append(ownWords(), "a", "_", "Z9", "recurse") {
		keeps(t, "."+s, "$x."+s, ".a."+s, "."+s+"."+s, `"t".`+s, "(1)."+s, ".[]."+s, "(. | .)."+s, ".?."+s)
		rewrites(t, `.["`+s+`"]`, "."+s, `$x["`+s+`"]`, "$x."+s, `."`+s+`"`, "."+s)
	}
	for _, s := range oddTexts() {
		literal := utf.Quote(s)
		tells(t, specimen.Part(api.Index, specimen.Part(api.Self), text(s)), ".["+literal+"]")
		tells(t, specimen.Part(api.Index, specimen.NamedPart(api.Var, "x"), text(s)), "$x["+literal+"]")
	}
	keeps(t, ".[0]", ".[null]", ".[true]", ".[.]", ".[.a]", ".[a]", ".[$x]", ".[-1]", ".[1, 2]", ".[1 | 2]", `.["a" + "b"]`, `.["a\(1)"]`, `.["a"?]`, ".[{}]", ".[[]]", ".[def f: 1; f]", ".[. as $x | 1]")
}

func TestP18_2Slices(t *testing.T) {
	keeps(t, ".[1:2]", ".[:2]", ".[1:]", ".[.:.]", ".[.a:.b]", ".[a:b]", ".[$x:$y]", ".[1, 2:3, 4]", ".[1 | 2:3 | 4]", ".[def f: 1; f:2]", ".[1:def f: 1; f]", ".[{a: 1}:{b: 2}]", ".[.[1:2]:.[3:4]]", ".[if 1 then 2 else 3 end:4]", `.["a":"b"]`, ".[null:]", ".[:null]")
}

func TestP18_2Keys(t *testing.T) {
	for _, s := range append(ownWords(), "a", "_1", "recurse") {
		keeps(t, "{"+s+": 1}", "{a: 1, "+s+": 2}", "{"+s+": ."+s+"}")
		rewrites(t, `{"`+s+`": 1}`, "{"+s+": 1}", `{("`+s+`"): 1}`, "{"+s+": 1}", "{"+s+"}", "{"+s+": ."+s+"}")
	}
	for _, s := range oddTexts() {
		tells(t, specimen.Part(api.Record, text(s), specimen.Part(api.Self)), "{"+utf.Quote(s)+": .}")
	}
	keeps(t, `{"p\(1)q": 2}`, `{"\(1)": 2, "\("a")": 3}`, "{(1): 2}", "{(null): 1}", "{(true): 1}", "{(.): 1}", "{(.a): 1}", "{(a): 1}", "{($x): 1}", "{(1, 2): 3}", "{(1 | 2): 3}", "{(-1): 1}", `{("a" + "b"): 1}`, `{("a"?): 1}`, "{({}): {}}", "{([]): []}", "{(def f: 1; f): 1}", "{(1): 2, a: 3, (4): 5}", "{a: 1 // 2, b: (1, 2), c: (1 | 2), d: (. = 1), e: 1 or 2}")
	rewrites(t, "{$x}", "{x: $x}", "{$x:1}", "{x: 1}", `{"a b"}`, `{"a b": .["a b"]}`, "{if,end}", "{if: .if, end: .end}", `{(("a")): 1}`, "{a: 1}", `{("a\(1)"): 2}`, `{"a\(1)": 2}`)
}

func TestP18_2Constants(t *testing.T) {
	for _, s := range []string{"0", "1", "9", "10", "99", "2147483648", "9223372036854775807", "9223372036854775808", "18446744073709551616", "1" + strings.Repeat("0", 400), strings.Repeat("9", 5000)} {
		tells(t, specimen.Constant(specimen.Num(s)), s)
		tells(t, specimen.Part(api.Neg, specimen.Constant(specimen.Num(s))), "-"+s)
	}
	for s, want := range map[string]string{"": `""`, "a": `"a"`, "end": `"end"`, "a\"b": `"a\"b"`, "\\": `"\\"`, "\\(1)": `"\\(1)"`, "\n\t\r\b\f": `"\n\t\r\b\f"`, "\x00\x1f": `"\u0000\u001f"`, "\x7fé€😀": `"\u007fé€😀"`, "/": `"/"`, "\u2028": "\"\u2028\""} {
		tells(t, text(s), want)
	}
	for _, s := range oddTexts() {
		tells(t, text(s), utf.Quote(s))
	}
}

func TestP18_2Joins(t *testing.T) {
	keeps(t, `"\(1)"`, `"\(1)\(2)"`, `"\(1)\(2)\(3)"`, `"a\(1)"`, `"\(1)b"`, `"a\(1)b\(2)c"`, `"\"\(1)\\\(2)\n"`, `"\\\\\(1)\\(2)"`, `"\((1).a)"`, `"\(1, 2)"`, `"\(1 | 2)"`, `"\(. as $x | 1)"`, `"\("a")"`, `"\("\(1)")"`, `"a\("b\("c\(1)d")e")f"`, `"\(")")"`, `"\("(")"`, `"\(f(1))"`, `"\(")\("(")")"`, `"é\(.)😀"`, `"a\(.)b".c`, `"\(.)"[]`, `"\(.)"?`, `-"\(.)"`)
	for _, s := range oddTexts() {
		inside := strings.TrimSuffix(utf.Quote(s)[1:], `"`)
		tells(t, specimen.Part(api.Join, text(s), text(s), text(s), text(s), text(s)), `"`+inside+`\("`+inside+`")`+inside+`\("`+inside+`")`+inside+`"`)
	}
}

func TestP18_2Blocks(t *testing.T) {
	rewrites(t,
		"if 1 then 2 elif 3 then 4 end", "if 1 then 2 else if 3 then 4 else . end end",
		"if 1 then 2 elif 3 then 4 else 5 end", "if 1 then 2 else if 3 then 4 else 5 end end",
		"try 1 catch 2", "try 1 catch 2", "try try 1 catch 2", "(try 1 catch 2)?", "try (try 1 catch 2) catch 3", "try (try 1 catch 2) catch 3", "try try 1 catch 2 catch 3", "try (try 1 catch 2) catch 3", "try 1 catch try 2 catch 3", "try 1 catch (try 2 catch 3)", "try 1? catch 2?", "try (1)? catch (2)?", "try .a.b catch .c[0]", "try .a.b catch .c[0]",
		"def f:1;def g:2;f", "def f: 1; def g: 2; f", "def f:def g:1;2;3", "def f: def g: 1; 2; 3", "(def f:1;2)|3", "(def f: 1; 2) | 3", "def f:1;2|3", "def f: 1; 2 | 3", "f(def g:1;2;3)", "f(def g: 1; 2; 3)", "f(1,2;3|4)", "f(1, 2; 3 | 4)",
		"reduce reduce 1 as $x(2;3) as $y(4;5)", "reduce reduce 1 as $x (2; 3) as $y (4; 5)", "foreach (1,2) as $x(3;4;5)", "foreach (1, 2) as $x (3; 4; 5)", "reduce (1) as $x(.;.)", "reduce 1 as $x (.; .)",
		"label $a|label $b|break $a,break $b", "label $a | label $b | break $a, break $b", "(label $a|1)|2", "(label $a | 1) | 2", "1 as $x|2 as $y|$x+$y", "1 as $x | 2 as $y | $x + $y", "(1 as $x|2) as $y|3", "(1 as $x | 2) as $y | 3", "..|..?", "recurse | recurse?", "...a", "recurse.a",
	)
}
