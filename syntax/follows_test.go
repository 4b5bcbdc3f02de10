package syntax_test

import (
	"fmt"
	"slices"
	"strings"
	"testing"

	"hallmark/api"
	"hallmark/specimen"
	"hallmark/syntax"
	"hallmark/word"
)

func parsed(t *testing.T, s string) api.Node {
	t.Helper()
	n, e, at := syntax.Parse(s)
	if e != api.OK || at != 0 {
		t.Errorf("Parse(%.300q): %d, %d", s, e, at)
	}
	return n
}

// What Parse answers is well shaped.
func TestP17_3WellShaped(t *testing.T) {
	r := newRand(1731)
	d := newDrawing(r)
	for range 3000 {
		s := laid(r, d.drawnWords(r.Intn(80)))
		if n := parsed(t, s); !syntax.Formed(n) || !formedOf(n) {
			t.Errorf("Parse(%q) = %s", s, specimen.ToldFilter(n, false))
		}
		if n, e, _ := syntax.Parse(laid(r, spoilt(r, d.words))); syntax.Formed(n) != (e == api.OK) || e != api.OK && !specimen.EqualFilters(n, api.Node{}) {
			t.Errorf("%d and %s", e, specimen.ToldFilter(n, true))
		}
	}
}

// Blanks, line ends and remarks put in between two words change nothing but At, and of what is refused the place alone.
func TestP17_3Blanks(t *testing.T) {
	r := newRand(1732)
	d := newDrawing(r)
	runs := []string{" ", "\t", "\n", "\r", "\r\n \t", "#\n", "# ) \" \\( \xff\n", "#\r#\n"}
	for range 300 {
		for _, words := range [][]string{d.drawnWords(r.Intn(30)), spoilt(r, d.words)} {
			s := plainly(words)
			want, e, at := syntax.Parse(s)
			tokens, fault, _ := word.Scan(s)
			if fault != api.OK {
				continue
			}
			for _, x := range append(tokens, api.Token{At: len(s)}) {
				if x.Kind == word.Mid || x.Kind == word.End {
					continue
				}
				run := oneOf(r, runs)
				got, gotE, gotAt := syntax.Parse(s[:x.At] + run + s[x.At:])
				moved := at
				if e != api.OK && at >= x.At {
					moved += len(run)
				}
				if !syntax.Same(got, want) || gotE != e || gotAt != moved {
					t.Errorf("Parse(%q): %d, %d; with %q at %d: %d, %d", s, e, at, run, x.At, gotE, gotAt)
				}
			}
		}
	}
}

// A filter's text in brackets is read as the same, but for At, which is one more.
func TestP17_3Brackets(t *testing.T) {
	r := newRand(1733)
	d := newDrawing(r)
	for range 1000 {
		s := laid(r, d.drawnWords(r.Intn(40)))
		want, e, at := syntax.Parse(s)
		got, gotE, gotAt := syntax.Parse("(" + s + "\n)")
		if e == api.OK && (!syntax.Same(got, want) || gotE != api.OK || gotAt != 0 || specimen.ToldFilter(got, true) != specimen.ToldFilter(movedBy(want, 1), true)) {
			t.Errorf("Parse(%q): %d, %d; in brackets %d, %d", s, e, at, gotE, gotAt)
		}
	}
	deep := strings.Repeat("[", 64) + strings.Repeat("]", 64)
	parsed(t, deep)
	refuses(t, "("+deep+")", api.ErrNest, 64)
}

// movedBy is a filter with each place so much further on; a None has none.
func movedBy(n api.Node, by int) api.Node {
	if n.Op == api.None {
		return n
	}
	n.At += by
	n.Kids = slices.Clone(n.Kids)
	for i, kid := range n.Kids {
		n.Kids[i] = movedBy(kid, by)
	}
	return n
}

// Same is an equivalence.
func TestP17_3Equivalence(t *testing.T) {
	pick := pickOf(1734)
	var all []api.Node
	for range 40 {
		n := specimen.DrawnFilter(pick, 2)
		others := specimen.NudgedFilters(n)
		all = append(all, n, specimen.PlacedFilter(n, 3), specimen.EmptyListedFilter(n), others[pick(len(others))], specimen.PlacedFilter(others[0], 4))
	}
	for _, a := range all {
		for _, b := range all {
			if syntax.Same(a, b) != syntax.Same(b, a) || syntax.Same(a, b) && (syntax.Formed(a) != syntax.Formed(b) || syntax.Depth(a) != syntax.Depth(b)) {
				t.Errorf("%s and %s", specimen.ToldFilter(a, false), specimen.ToldFilter(b, false))
			}
			for _, c := range all {
				if syntax.Same(a, b) && syntax.Same(b, c) && !syntax.Same(a, c) {
					t.Errorf("%s, %s and %s", specimen.ToldFilter(a, false), specimen.ToldFilter(b, false), specimen.ToldFilter(c, false))
				}
			}
		}
	}
}

// What a text or a field says stands for no mark and no word of the language's own.
func TestP17_1TextsThatSayWords(t *testing.T) {
	for _, s := range []string{"or", "and", "+", "if", "=", "|", "(", "]", "recurse", "$x"} {
		reads(t, fmt.Sprintf("%q", s), fmt.Sprintf("%q", s))
		refuses(t, fmt.Sprintf("1 %q 2", s), api.ErrPlace, 2)
		refuses(t, fmt.Sprintf("[%q", s), api.ErrEarly, len(s)+3)
	}
	for _, s := range ownWords() {
		reads(t, "."+s, fmt.Sprintf("index(self %q)", s))
		reads(t, "$x."+s, fmt.Sprintf("index(var.x %q)", s))
		refuses(t, "if 1 ."+s+" 2", api.ErrPlace, 7+len(s))
	}
}

// Each answer is memory of its own: what is written into one changes no other, and no two of its lists share a place.
func TestMemory(t *testing.T) {
	r := newRand(1735)
	d := newDrawing(r)
	texts := []string{
		"1", ".", "f(1; 2; 3)", "def f(a; $b; c): 1; 2", "{a, b: 1, $c, (1): 2, if}", `"a\(1)b\(2)c"`, "[1, 2]", "if 1 then 2 elif 3 then 4 elif 5 then 6 end", "1 // 2 // 3 // 4", "1 | 2 | 3", "try 1 catch try 2 catch 3", "reduce foreach . as $x (1; 2; 3) as $y (4; 5)", "- - - 1", "1 + 2 + 3 = 4", ".[1:2][3:][]?.a", "1 as $x | label $l | def f: 1; break $l",
	}
	for range 500 {
		texts = append(texts, laid(r, d.drawnWords(r.Intn(60))))
	}
	for _, s := range texts {
		first, second := parsed(t, s), parsed(t, s)
		told := specimen.ToldFilter(second, true)
		if !specimen.OwnFilter(first, second) || !specimen.OwnFilter(second) {
			t.Errorf("Parse(%q): lists share places", s)
		}
		specimen.ScribbleFilter(first)
		if got := specimen.ToldFilter(second, true); got != told {
			t.Errorf("Parse(%q): the second answer is %s, was %s", s, got, told)
		}
		if got := specimen.ToldFilter(parsed(t, s), true); got != told {
			t.Errorf("Parse(%q): the third answer is %s, want %s", s, got, told)
		}
	}
}

// What comes in stays as it was, its spare room too.
func TestArguments(t *testing.T) {
	pick := pickOf(1736)
	all := slices.Concat(specimen.FilterForms(), specimen.MisshapenFilters())
	for range 300 {
		all = append(all, specimen.DrawnFilter(pick, 4))
	}
	for _, n := range all {
		a, b := specimen.RoomyFilter(n), specimen.RoomyFilter(n)
		syntax.Formed(a)
		syntax.Depth(a)
		syntax.Same(a, b)
		syntax.Same(a, specimen.DrawnFilter(pick, 2))
		if !specimen.UntouchedFilter(a, n) || !specimen.UntouchedFilter(b, n) {
			t.Errorf("changed: %s", specimen.ToldFilter(n, true))
		}
	}
}

func TestSameness(t *testing.T) {
	r := newRand(1737)
	d := newDrawing(r)
	var texts []string
	for range 300 {
		words := d.drawnWords(r.Intn(40))
		texts = append(texts, laid(r, words), laid(r, spoilt(r, words)))
	}
	if !specimen.AtOnce(func() string {
		var told strings.Builder
		for _, s := range texts {
			n, e, at := syntax.Parse(s)
			fmt.Fprintln(&told, specimen.ToldFilter(n, true), e, at, syntax.Formed(n), syntax.Depth(n), syntax.Same(n, n))
		}
		return told.String()
	}) {
		t.Error("the same calls answer otherwise")
	}
}

// Parts may be nested as deep as the document's bound, and deeper, where no bracket opens; and long texts cost what they are long.
func TestDeepFilters(t *testing.T) {
	t.Parallel()
	const many = 1 << 17
	again := func(s string) string { return strings.Repeat(s, many) }
	for _, s := range []string{
		again("- ") + "1", again("try ") + "1", again("try 1 catch ") + "1", again("try ") + "1" + again(" catch 2"), again("1 | ") + "1", again("1 // ") + "1", again("1, ") + "1", again("1 + ") + "1", "1" + again("?"), "$x" + again(".a"), "." + again("[0]"), again("def f: 1; ") + "1", again("label $x | ") + "1", again(". as $x | ") + "1",
		"if 1 then 2 " + again("elif 3 then 4 ") + "end", again("reduce ") + "1" + again(" as $x (2; 3)"), again("foreach ") + "1" + again(" as $x (2; 3; 4)[]"),
	} {
		n := parsed(t, s)
		if deep := syntax.Depth(n); deep < many || !syntax.Formed(n) || !syntax.Same(n, n) {
			t.Errorf("%.20q and so on is %d deep", s, deep)
		}
		if _, e, at := syntax.Parse(s + " )"); e != api.ErrPlace || at != len(s)+1 {
			t.Errorf("%.20q and so on, and a bracket: %d, %d", s, e, at)
		}
	}
	for open, at := range map[string]int{"(": 64, "[": 64, "f(": 129, "if ": 192, "def f: ": 448, "{a: ": 256, ".[": 129, "-[": 129} {
		if _, e, got := syntax.Parse(again(open)); e != api.ErrNest || got != at {
			t.Errorf("%q without end: %d, %d", open, e, got)
		}
	}
	for s, want := range map[string][2]int{again("1 "): {171, 2}, again(") "): {171, 0}, again("# x\n"): {170, 4 * many}, again("f(1) | "): {170, 7 * many}, again(`"\(1)" + `): {170, 9 * many}} {
		if _, e, at := syntax.Parse(s); int(e) != want[0] || at != want[1] {
			t.Errorf("%.20q and so on: %d, %d", s, e, at)
		}
	}
	wide := parsed(t, "["+again("1, ")+"1] | {"+again("a: 1, ")+`b} | "`+again(`x\(1)`)+`" | f(`+again("1; ")+"1)")
	if !syntax.Formed(wide) || len(wide.Kids[1].Kids[0].Kids) != 2*many+2 || len(wide.Kids[1].Kids[1].Kids[0].Kids) != 2*many+1 || len(wide.Kids[1].Kids[1].Kids[1].Kids) != many+1 {
		t.Error("many beside one another")
	}
}

// Values in a filter that isn't well shaped may be deep, too.
func TestDeepValues(t *testing.T) {
	const many = 1 << 16
	n := specimen.Constant(specimen.Nested(api.Value{}, many))
	if syntax.Formed(n) || syntax.Depth(n) != 1 || !syntax.Same(n, n) || syntax.Same(n, specimen.Constant(specimen.Nested(specimen.Num("1"), many))) {
		t.Error("a deep value")
	}
	if syntax.Formed(api.Node{Op: api.Self, Value: n.Value}) {
		t.Error("a deep value where none may be")
	}
}

func FuzzAny(f *testing.F) {
	for _, s := range []string{"", "1 | 2", ".a[0]?", "def f(a; $b): 1; f(1; 2)", `"p\(.a)q\(1)"`, "{a, $b, if: 1, (1): 2}", "if 1 then 2 elif 3 then 4 end", "try try 1 catch 2 catch 3", "reduce . as $x (1; 2)", "foreach . as $x (1; 2; 3)", "label $l | break $l", ". as $x | $x", "1 = 2 = 3", "1 < 2 and - - 3 // 4", ".[1:] | .[:2] | ..", "((((", "1 2", "{(1)}"} {
		f.Add(s)
	}
	f.Fuzz(func(t *testing.T, s string) {
		if words, _, _ := word.Scan(s); len(words) > 300 {
			return
		}
		checkWords(t, s)
		n, e, _ := syntax.Parse(s)
		if syntax.Formed(n) != (e == api.OK) {
			t.Errorf("Parse(%q) = %s, %d", s, specimen.ToldFilter(n, true), e)
		}
		again, gotE, _ := syntax.Parse(" # x\n" + s)
		if !syntax.Same(n, again) || gotE != e {
			t.Errorf("Parse(%q): %d, and behind a remark %d", s, e, gotE)
		}
	})
}
