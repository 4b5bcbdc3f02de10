package syntax_test

import (
	"fmt"
	"slices"
	"strings"
	"testing"

	"hallmark/api"
	"hallmark/syntax"
	"hallmark/word"
)

// No word at all.
func TestP17_1NoWord(t *testing.T) {
	for _, s := range []string{"", " ", "\t", "\n", "\r", " \r\n\t ", "#", "#x", "# x\n", "#\n#\n", "  # (\"\n\t# [", "#\r"} {
		refuses(t, s, api.ErrEarly, len(s))
	}
}

// word's errors go ahead of a word that can't stand, wherever both are.
func TestP17_1FaultsOfWords(t *testing.T) {
	for _, c := range []struct {
		s  string
		e  api.Errno
		at int
	}{
		{"$", api.ErrWords, 0}, {"&", api.ErrWords, 0}, {"!", api.ErrWords, 0}, {"$if", api.ErrWords, 0}, {"é", api.ErrWords, 0}, {"\xff", api.ErrWords, 0}, {"01", api.ErrNumber, 0}, {"1.5", api.ErrNumber, 0}, {"1a", api.ErrNumber, 0},
		{`"a`, api.ErrQuote, 2}, {`"\(1`, api.ErrQuote, 4}, {`"\q"`, api.ErrEscape, 1}, {`"\ud800"`, api.ErrPair, 1}, {"\"\n\"", api.ErrControl, 1}, {"\"\xff\"", api.ErrUTF, 1},
	} {
		for _, ahead := range []string{"", " ", "1 ", "1 2 ", ") ", "| ", "[", "def ", "if then ", "1 = 2 = 3 ", strings.Repeat("(", 65), "{(1)} ", "end ", "# x\n"} {
			refuses(t, ahead+c.s, c.e, len(ahead)+c.at)
			if c.e != api.ErrQuote {
				refuses(t, ahead+c.s+" )", c.e, len(ahead)+c.at)
			}
		}
	}
}

// checkStep holds what Parse says of words behind which one more is put, by whether it can stand there.
func checkStep(t *testing.T, c chart, words []string, next string) {
	t.Helper()
	s := plainly(words)
	if s != "" {
		s += " "
	}
	at := len(s)
	s = closed(s + next)
	tokens, e, _ := word.Scan(s)
	if e != api.OK || len(tokens) <= len(words) || tokens[len(words)].At != at {
		return // the word is another one there, within a text
	}
	n, gotE, gotAt := syntax.Parse(s)
	if c.takes(tokens[len(words)]) {
		if gotE == api.ErrPlace && gotAt <= at || gotE == api.ErrNest {
			t.Errorf("Parse(%q): %d, %d", s, gotE, gotAt)
		}
		return
	}
	if gotE != api.ErrPlace || gotAt != at || n.Op != 0 || len(n.Kids) != 0 {
		t.Errorf("Parse(%q): %v, %d, %d, want %d", s, n, gotE, gotAt, at)
	}
}

// all goes through all words that may stand at the beginning of a filter's text, up to so many, and calls with each row of them.
func all(c chart, of, words []string, most int, do func(c chart, words []string)) {
	do(c, words)
	if len(words) == most {
		return
	}
	for _, x := range of {
		tokens, _, _ := word.Scan(x)
		if tokens == nil { // a piece of a text
			tokens = []api.Token{{Kind: pieceKind(x), Text: x}}
		}
		if next, can := c.with(tokens[0]); can {
			all(next, of, append(slices.Clip(words), x), most, do)
		}
	}
}

// pieceKind is the kind of a text's piece in oneOfEach.
func pieceKind(s string) int {
	switch s[:2] {
	case `"b`:
		return word.Begin
	case ")m":
		return word.Mid
	}
	return word.End
}

// checkRows holds, behind each row of these words that may begin a filter's text, each word that can't stand there to its place, and the text's end, if it comes too early, to its own.
func checkRows(t *testing.T, of []string, most, least int) {
	t.Helper()
	rows := 0
	all(chapterGrammar().start(), of, nil, most, func(c chart, words []string) {
		rows++
		for _, x := range of {
			checkStep(t, c, words, x)
		}
		checkWords(t, closed(plainly(words)))
	})
	if rows < least {
		t.Errorf("only %d rows", rows)
	}
}

func TestP17_1FirstWordThatCantStand(t *testing.T) {
	t.Parallel()
	checkRows(t, oneOfEach(), 3, 9000)
}

func TestP17_1FirstWordThatCantStandFurtherOn(t *testing.T) {
	t.Parallel()
	checkRows(t, []string{"f", "$x", `"t"`, `"b\(`, `)m\(`, `)e"`, "def", "if", "then", "elif", "else", "end", "as", "reduce", "foreach", "try", "catch", "label", "|", ",", "//", "==", "-", ".", "(", ")", "[", "]", "{", "}", ":", ";"}, 4, 10000)
}

// The same behind each word of filters that are drawn.
func TestP17_1FirstWordThatCantStandInDrawnFilters(t *testing.T) {
	t.Parallel()
	r := newRand(171)
	d := newDrawing(r)
	for range 150 {
		words := d.drawnWords(r.Intn(30))
		tokens, e, _ := word.Scan(plainly(words))
		if e != api.OK || len(tokens) != len(words) {
			t.Fatalf("%q: %d", plainly(words), e)
		}
		c := chapterGrammar().start()
		for i, x := range tokens {
			for _, other := range oneOfEach() {
				checkStep(t, c, words[:i], other)
			}
			if s := plainly(words[:i]); closed(s) == s && !c.whole() {
				refuses(t, s, api.ErrEarly, len(s))
				refuses(t, s+" # x", api.ErrEarly, len(s)+4)
			}
			c, _ = c.with(x)
		}
	}
}

func TestP17_1DrawnFilters(t *testing.T) {
	t.Parallel()
	r := newRand(17)
	d := newDrawing(r)
	for range 1200 {
		words := d.drawnWords(r.Intn(60))
		checkWords(t, laid(r, words))
		for range 3 {
			checkWords(t, laid(r, spoilt(r, words)))
			checkWords(t, closed(laid(r, spoilt(r, words))))
		}
	}
}

func TestP17_1WordsOutOfPlace(t *testing.T) {
	for s, at := range map[string]int{
		"1 2": 2, "| 1": 0, "1 | | 2": 4, "1 , , 2": 4, "1 |": -3, "1 ,": -3, "1 +": -3, "1 2 3": 2, ". .a .b c": 8, ";": 0, "1;": 1, ":": 0, "1:": 1, "=": 0, "1 = ": -4, "then": 0, "elif": 0, "else": 0, "end": 0, "as": 0, "catch": 0, "and": 0, "or": 0, "1 and": -5, "1 or": -4, "1 and or": 6, "not 1": 4,
		"def": -3, "def f": -5, "def f:": -6, "def f: 1": -8, "def f: 1;": -9, "def f: 1; 2;": 11, "def if: 1; 2": 4, "def null: 1; 2": 4, "def $f: 1; 2": 4, "def .f: 1; 2": 4, `def "f": 1; 2`: 4, "def 1: 1; 2": 4, "def : 1; 2": 4, "def f 1; 2": 6, "def f; 1": 5, "def f(: 1; 2": 6, "def f(": -6, "def f(a": -7, "def f(a;": -8, "def f(a)": -8, "def f(): 1; 2": 6, "def f(a;): 1; 2": 8, "def f(a, b): 1; 2": 7, "def f(a b): 1; 2": 8, "def f(if): 1; 2": 6, "def f(.a): 1; 2": 6, "def f(1): 1; 2": 6, "def f(;): 1; 2": 6, "def f(a): 1": -11, "def f(a) 1": 9, "def f: ; 2": 7, "def f: 1;; 2": 9, "def f: 1; ;": 10, "def f: 1, ; 2": 10, "1, def f: 2; 3": 3, "1 + def f: 2; 3": 4, "(def f: 1;)": 10, "[def f: 1;]": 10, "def f: 1 | 2": -12, "def f: 1)": 8,
		"label": -5, "label $l": -8, "label $l |": -10, "label l | 1": 6, "label | 1": 6, "label $l 1": 9, "label $l, 1": 8, "label if": 6, "1 + label $l | 2": 4, "1, label $l | 2": 3, "break": -5, "break l": 6, "break 1": 6, "break if": 6, "break | 1": 6, "break $l 1": 9, "break $l $m": 9,
		"f(": -2, "f()": 2, "f(1": -3, "f(1;": -4, "f(1;)": 4, "f(;1)": 2, "f(1;;2)": 4, "f(1,)": 4, "f(1 2)": 4, "f(1]": 3, "f(1))": 4, "f 1": 2, "f f": 2, "f $x": 2, "f {}": 2, "$x(1)": 2, "f(1)(2)": 4, "1(2)": 1, ".a(1)": 2,
		"if": -2, "if 1": -4, "if 1 then": -9, "if 1 then 2": -11, "if 1 then 2 else": -16, "if 1 then 2 else 3": -18, "if 1 then 2 elif": -16, "if 1 then 2 elif 3": -18, "if 1 then 2 elif 3 then": -23, "if 1 then 2 elif 3 then 4": -25, "if then 1 end": 3, "if 1 then end": 10, "if 1 then 2 else end": 17, "if 1 else 2 end": 5, "if 1 end": 5, "if 1 2 then 3 end": 5, "if 1 then 2 3 end": 12, "if 1 then 2 else 3 else 4 end": 19, "if 1 then 2 else 3 elif 4 then 5 end": 19, "if 1 then 2 elif 3 end": 19, "if 1 then 2 elif 3 else 4 end": 19, "if 1 then 2 then 3 end": 12, "if 1 then 2 end end": 16, "if 1 then 2 end else": 16, "if 1 then 2)": 11, "if 1 | then 2 end": 7, "elif 1 then 2 end": 0, "if 1 then 2 end 3": 16, "if 1 elif 2 then 3 end": 5,
		"reduce": -6, "reduce .": -8, "reduce . as": -11, "reduce . as $x": -14, "reduce . as $x (": -16, "reduce . as $x (1": -17, "reduce . as $x (1;": -18, "reduce . as $x (1; 2": -20, "reduce as $x (1; 2)": 7, "reduce . $x (1; 2)": 9, "reduce . as x (1; 2)": 12, "reduce . as $x 1": 15, "reduce . as $x [1]": 15, "reduce . as $x | 1": 15, "reduce . as $x ()": 16, "reduce . as $x (1)": 17, "reduce . as $x (1;)": 18, "reduce . as $x (;2)": 16, "reduce . as $x (1; 2;": 20, "reduce . as $x (1; 2; 3)": 20, "reduce . as $x (1, 2)": 20, "reduce -1 as $x (1; 2)": 7, "reduce . | 1": 9, "reduce .; 1": 8, "reduce . as $x (1; 2) 3": 22, "reduce . as $x (1; 2) (3)": 22, "reduce . as $x (1; 2]": 20, "reduce def f: 1; 2 as $x (1; 2)": 7, "reduce . as $x, $y (1; 2)": 14, "reduce . catch 1 as $x (1; 2)": 9,
		"foreach": -7, "foreach . as $x (1; 2": -21, "foreach . as $x (1; 2;": -22, "foreach . as $x (1; 2; 3": -24, "foreach . as $x (1)": 18, "foreach . as $x (1; 2;)": 22, "foreach . as $x (1; 2; 3;": 24, "foreach . as $x (1; 2; 3; 4)": 24, "foreach . as $x ()": 17, "foreach as": 8, "foreach . as $x 1": 16, "foreach -1 as $x (1; 2)": 8,
	} {
		if at < 0 {
			refuses(t, s, api.ErrEarly, -at)
			refuses(t, s+" ", api.ErrEarly, 1-at)
			refuses(t, s+"\n# x", api.ErrEarly, 4-at)
			refuses(t, s+" ]", api.ErrPlace, 1-at)
			continue
		}
		for _, behind := range []string{"", " ", " 1", " )", " |", "\n# x", " end", strings.Repeat("(", 65)} {
			refuses(t, s+behind, api.ErrPlace, at)
		}
	}
	for _, own := range ownWords() {
		refuses(t, "def "+own+": 1; 2", api.ErrPlace, 4)
		refuses(t, "def f("+own+"): 1; 2", api.ErrPlace, 6)
		refuses(t, "label "+own+" | 1", api.ErrPlace, 6)
		refuses(t, ". as "+own+" | 1", api.ErrPlace, 5)
		refuses(t, "break "+own, api.ErrPlace, 6)
		refuses(t, "reduce . as "+own+" (1; 2)", api.ErrPlace, 12)
		if !slices.Contains(strings.Fields("def if reduce foreach try label break null true false"), own) {
			refuses(t, own, api.ErrPlace, 0)
			refuses(t, own+"(1)", api.ErrPlace, 0)
			refuses(t, "1 | "+own, api.ErrPlace, 4)
		}
	}
}

// opener is a way to open something around a pipe: what stands ahead and behind, and where the words are that open what is open then.
type opener struct {
	ahead, behind string
	at            []int
}

func openers() []opener {
	return []opener{
		{"(", ")", []int{0}}, {"[", "]", []int{0}}, {"1 + (", ")", []int{4}}, {".[", "]", []int{1}}, {".[1:", "]", []int{1}}, {".[:", "]", []int{1}}, {"{a: (", ")}", []int{0, 4}}, {"{(", "): 1}", []int{0, 1}}, {"{if, def: [", "], end: 1}", []int{0, 10}}, {"f(", ")", []int{1}}, {"f(1; ", "; 2)", []int{1}},
		{"if ", " then 1 end", []int{0}}, {"if 1 then ", " end", []int{0}}, {"if 1 then 2 elif 3 then ", " end", []int{0}}, {"if 1 then 2 else ", " end", []int{0}}, {"def f: ", "; 1", []int{0}}, {"1 | def f: ", "; (1)", []int{4}},
		{"reduce . as $x (", "; 1)", []int{15}}, {"foreach . as $x (1; 2; ", ")", []int{16}}, {"reduce [", "] as $x (1; 2)", []int{7}}, {`"\(`, `)"`, []int{0}}, {`"\(1)\(`, `)"`, []int{0}}, {`."\(`, `)"`, []int{1}}, {`.a."p\(`, `)q"`, []int{3}}, {`{"\(`, `)": 1}`, []int{0, 1}}, {"try (", ")", []int{4}}, {"try 1 catch [", "]", []int{12}}, {"-(", ")", []int{1}}, {". as $x | (", ")", []int{10}}, {"label $l | [", "]", []int{11}},
	}
}

// nested is a pipe with openers around it, and the places of the words that open something.
func nested(inner string, row []opener) (string, []int) {
	var ahead, behind string
	var open []int
	for _, o := range row {
		for _, at := range o.at {
			open = append(open, len(ahead)+at)
		}
		ahead += o.ahead
		behind = o.behind + behind
	}
	return ahead + inner + behind, open
}

func checkNested(t *testing.T, inner string, row []opener) {
	t.Helper()
	s, open := nested(inner, row)
	if len(open) > api.MaxNest {
		refuses(t, s, api.ErrNest, open[api.MaxNest])
		return
	}
	if _, e, at := syntax.Parse(s); e != api.OK || at != 0 {
		t.Errorf("%d open in %q: %d, %d", len(open), s, e, at)
	}
}

// 64 things open within one another are read, the 65th is refused, of each kind.
func TestP17_1Nest(t *testing.T) {
	for _, o := range openers() {
		for _, inner := range []string{"1", ".a", "1 + 2", "1, 2 | 3", ". as $x | 1", "{if: 1}", "{def}"} {
			row := slices.Repeat([]opener{o}, 66/len(o.at))
			for many := 60 / len(o.at); many <= len(row); many++ {
				if _, open := nested("", row[:many]); len(open) < api.MaxNest || inner[0] != '{' {
					checkNested(t, inner, row[:many])
				}
			}
		}
	}
	records := strings.Repeat("{a: ", 64)
	if _, e, at := syntax.Parse(records + "1" + strings.Repeat("}", 64)); e != api.OK || at != 0 {
		t.Errorf("64 records: %d, %d", e, at)
	}
	refuses(t, records+"{a: 1}"+strings.Repeat("}", 64), api.ErrNest, 256)
	refuses(t, records+"[]"+strings.Repeat("}", 64), api.ErrNest, 256)
	refuses(t, records+"def f: 1; 2"+strings.Repeat("}", 64), api.ErrPlace, 256)
}

// Mixed, too; and what is closed again doesn't count.
func TestP17_1NestMixed(t *testing.T) {
	r := newRand(172)
	done := []string{"(1) | ", "[[1]] | ", "{a: {b: 1}, if: 2, def: 3} | ", "if 1 then 2 end | ", "def g(a; $b): (1); ", `"\("\(1)")" | `, "f(1; (2)) | ", ".[1:2][] | ", "reduce . as $x (1; 2) | ", "label $l | ", "1 as $x | ", strings.Repeat("def f: 1; ", 70), strings.Repeat("(1) | ", 70), strings.Repeat("- ", 70) + "1 | ", strings.Repeat("try ", 70) + "1 | ", "{" + strings.Repeat("if: 1, def: (2), ", 70) + "end: 3} | "}
	for range 300 {
		var row []opener
		for many := 0; many < 66; {
			o := oneOf(r, openers())
			if many < 60 && r.Intn(3) == 0 {
				ahead := oneOf(r, done)
				o.ahead = ahead + o.ahead
				o.at = slices.Clone(o.at)
				for i := range o.at {
					o.at[i] += len(ahead)
				}
			}
			row = append(row, o)
			many += len(o.at)
		}
		for many := len(row) - 4; many <= len(row); many++ {
			checkNested(t, "1", row[:many])
		}
	}
}

// Where the word can't stand that would be the 65th, that is said; and word's errors go ahead of all.
func TestP17_1NestOrPlace(t *testing.T) {
	for _, o := range openers() {
		if len(o.at) > 1 {
			continue
		}
		ahead, behind := strings.Repeat(o.ahead, 64), strings.Repeat(o.behind, 64)
		for _, x := range []string{"(1)", "[1]", "{}", "if 1 then 2 end", "def f: 1; 2", `"\(1)"`, "[]", "{a: 1}"} {
			refuses(t, ahead+x+behind, api.ErrNest, len(ahead))
			refuses(t, ahead+"1 | "+x+behind, api.ErrNest, len(ahead)+4)
			refuses(t, ahead+x+" ) ] } 1 2"+behind, api.ErrNest, len(ahead))
			if x[0] != '[' {
				refuses(t, ahead+"1 "+x+behind, api.ErrPlace, len(ahead)+2)
			} else {
				refuses(t, ahead+"1 "+x+behind, api.ErrNest, len(ahead)+2)
			}
			refuses(t, ahead+"1 2 "+x+behind, api.ErrPlace, len(ahead)+2)
			refuses(t, ahead+x+behind+" &", api.ErrWords, len(ahead+x+behind)+1)
		}
		refuses(t, ahead+"f(1)"+behind, api.ErrNest, len(ahead)+1)
		refuses(t, ahead+"$x(1)"+behind, api.ErrPlace, len(ahead)+2)
		refuses(t, ahead+".[1]"+behind, api.ErrNest, len(ahead)+1)
		refuses(t, ahead+".a[]"+behind, api.ErrNest, len(ahead)+2)
		refuses(t, ahead+`."\(1)"`+behind, api.ErrNest, len(ahead)+1)
		refuses(t, ahead+"reduce . as $x (1; 2)"+behind, api.ErrNest, len(ahead)+15)
		refuses(t, ahead+"foreach . as $x (1; 2)"+behind, api.ErrNest, len(ahead)+16)
		refuses(t, ahead+"reduce . as $x [1]"+behind, api.ErrPlace, len(ahead)+15)
		refuses(t, ahead+"1 + def f: 1; 2"+behind, api.ErrPlace, len(ahead)+4)
		refuses(t, ahead+"..(1)"+behind, api.ErrPlace, len(ahead)+2)
	}
	open := strings.Repeat("(", 63)
	refuses(t, open+"def f(a): 1; 2", api.ErrNest, 63+5)
	refuses(t, open+"def f[a]: 1; 2", api.ErrPlace, 63+5)
	refuses(t, open+"{(1): 2}", api.ErrNest, 64)
	refuses(t, open+`{"\(1)": 2}`, api.ErrNest, 64)
	refuses(t, open+"{a: (1)}", api.ErrNest, 67)
	refuses(t, open+"{a(1)}", api.ErrPlace, 65)
	refuses(t, open+"{[1]}", api.ErrPlace, 64)
	refuses(t, open+"{{}}", api.ErrPlace, 64)
	closing := strings.Repeat(")", 63)
	for _, s := range []string{"{if: 1, def: 2}", "{def}", "{if}", "{a, if, def: 1, end}", "def f: 1; def g: 2; (3)", "(1) | [2] | {a: 1}", `"\(1)\(2)\(3)"`, "f(1; 2; 3)", ".[1][2][3:4]", "if 1 then 2 elif 3 then 4 else 5 end", "def f: - - 1; 2", "(try try 1 catch 2)", "reduce . as $x (1; 2)", `"a" | "b"`} {
		if _, e, at := syntax.Parse(open + s + closing); e != api.OK {
			t.Errorf("%s within 63: %d, %d", s, e, at)
		}
	}
}

// What goes on without brackets may do so without end.
func TestP17_1NotNested(t *testing.T) {
	const many = 1000
	for ahead, s := range map[string]string{
		"-": "1", "try ": "1", "1 | ": "1", "1 // ": "1", "1 + ": "1", "1, ": "1", "1 and ": "1", "1 or ": "1", "1 * ": "1", "def f: 1; ": "1", "label $l | ": "1", ". as $x | ": "1", "try 1 catch ": "1", "(1) | ": "1", "def f(g; $x): [1]; ": "1", `"\(1)" + `: "1",
	} {
		if n, e, at := syntax.Parse(strings.Repeat(ahead, many) + s); e != api.OK || at != 0 || syntax.Depth(n) < many {
			t.Errorf("%q: %d, %d, %d deep", ahead, e, at, syntax.Depth(n))
		}
	}
	for behind, deep := range map[string]int{"?": many, ".a": many, "[0]": many, "[]": many, "[1:]": many, ` . "a"`: many, ", 1": many, " | 1": many, " - 1": many} {
		if n, e, at := syntax.Parse("$x" + strings.Repeat(behind, many)); e != api.OK || at != 0 || syntax.Depth(n) != deep+1 {
			t.Errorf("%q: %d, %d, %d deep", behind, e, at, syntax.Depth(n))
		}
	}
	elifs := "if 1 then 2 " + strings.Repeat("elif 3 then 4 ", many) + "end"
	if n, e, at := syntax.Parse(elifs); e != api.OK || at != 0 || syntax.Depth(n) != many+2 {
		t.Errorf("elifs: %d, %d, %d deep", e, at, syntax.Depth(n))
	}
	loops := strings.Repeat("reduce ", many) + "1" + strings.Repeat(" as $x (1; 2)", many)
	if n, e, at := syntax.Parse(loops); e != api.OK || at != 0 || syntax.Depth(n) != many+1 {
		t.Errorf("loops: %d, %d, %d deep", e, at, syntax.Depth(n))
	}
	wide := fmt.Sprintf("[%s1]", strings.Repeat("1, [2], {a: 3}, ", many))
	if _, e, at := syntax.Parse(wide); e != api.OK || at != 0 {
		t.Errorf("many beside one another: %d, %d", e, at)
	}
}
