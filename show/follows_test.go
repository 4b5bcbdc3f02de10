package show_test

import (
	"fmt"
	"slices"
	"strings"
	"testing"

	"hallmark/api"
	"hallmark/show"
	"hallmark/specimen"
	"hallmark/syntax"
)

// Filters that aren't well shaped, in each way in which a part may not be, at the top and inside.
func TestP18_2Misshapen(t *testing.T) {
	refuses(t, api.Node{})
	wrong := specimen.MisshapenFilters()
	for _, n := range wrong {
		refuses(t, n)
	}
	for i, n := range wrong {
		if n.Op == api.None {
			n.Text = "f" // an end of a Slice may be None
		}
		around := specimen.AroundFilter(n)
		refuses(t, around[0])
		refuses(t, around[1+i%(len(around)-1)])
	}
	for _, n := range specimen.AroundFilter(specimen.Constant(specimen.Num("-1"))) {
		refuses(t, n)
	}
	pick := pickOf(1831)
	for range 2000 {
		refuses(t, specimen.SpoiltFilter(specimen.DrawnFilter(pick, 5), pick))
	}
}

// Bytes that are no UTF-8, wherever a text may stand.
func TestP18_2NoUTF8(t *testing.T) {
	bad, a, self := text("\xff"), text("a"), specimen.Part(api.Self)
	for _, n := range []api.Node{bad, specimen.Part(api.Index, self, bad), specimen.Part(api.Record, bad, self), specimen.Part(api.Join, bad, self, a), specimen.Part(api.Join, a, self, bad), specimen.Part(api.Join, a, bad, a), specimen.Part(api.List, bad), specimen.NamedPart(api.Var, "\xff"), specimen.NamedPart(api.Call, "f", bad), specimen.Definition("f", []string{"\xff"}, self, self)} {
		refuses(t, n)
	}
}

// Whatever At says, and whether lists are nil or empty, the text is the same.
func TestP18_2Alike(t *testing.T) {
	pick := pickOf(1832)
	for range 2000 {
		n := specimen.DrawnFilter(pick, 4)
		want, _ := show.Text(n)
		for _, other := range []api.Node{specimen.EmptyListedFilter(n), specimen.RoomyFilter(n), specimen.PlacedFilter(n, 0), specimen.PlacedFilter(n, -7)} {
			if got, e := show.Text(other); got != want || e != api.OK {
				t.Errorf("Text = %q, %d, and was %q", got, e, want)
			}
		}
	}
}

// Filters that are unlike have unlike texts.
func TestP18_3Unlike(t *testing.T) {
	pick := pickOf(1833)
	said := map[string]api.Node{}
	hold := func(n api.Node) {
		s, e := show.Text(n)
		if e != api.OK {
			return
		}
		if other, found := said[s]; found && !syntax.Same(n, other) {
			t.Errorf("%q is of %s and of %s", s, specimen.ToldFilter(n, false), specimen.ToldFilter(other, false))
		}
		said[s] = n
	}
	for _, n := range forms() {
		hold(n)
		for _, other := range specimen.NudgedFilters(n) {
			hold(other)
		}
	}
	for i := range 3000 {
		n := specimen.DrawnFilter(pick, 1+i%4)
		hold(n)
		for _, other := range specimen.NudgedFilters(n) {
			hold(other)
		}
	}
	for _, inner := range slices.Concat(least(), most()) {
		for _, around := range aroundBy(inner) {
			hold(around)
		}
	}
	if len(said) < 10000 {
		t.Errorf("only %d texts", len(said))
	}
}

// The text of what any text is read as is read as the same, and is its own text.
func TestP18_3OfTexts(t *testing.T) {
	w := newTeller()
	for _, s := range []string{
		"# a\n. # b", ".a|map(.+1)", `{a,"b c",$x,"p\(1)q":2,(.d):3,if:4}`, "def f(a;$b):a|$b;f(.;1)", "try(try error catch .)catch(.,1)", ".a[1:][:2][3:4]?//empty", "reduce .[] as $x(0;.+$x)|-.", "label $out|foreach .[] as $i(0;.+$i;if.>3 then .,break $out else . end)", "(((1)))", "1-(2-3)-4", "(1,2),(3,4)", ".a=(.b=1)", "-(1)-(-(2))", "[.[]|{(.k):.v}]|add", `"\("\("\(1)")")"`, "..|..", "1 as $x|2 as $y|[$x,$y,$__loc]", ".[.[.[0]]]", "not|not", "true and(false or null)",
	} {
		checkWords(t, w, parsed(t, s))
	}
}

// Texts that are nested as deep as can be read, and one deeper.
func TestP18_3Nest(t *testing.T) {
	self := specimen.Part(api.Self)
	for op, around := range map[string]func(n api.Node) api.Node{
		"list":   func(n api.Node) api.Node { return specimen.Part(api.List, n) },
		"record": func(n api.Node) api.Node { return specimen.Part(api.Record, text("end"), n) },
		"join":   func(n api.Node) api.Node { return specimen.Part(api.Join, text(""), n, text("")) },
		"call":   func(n api.Node) api.Node { return specimen.NamedPart(api.Call, "f", n) },
		"if":     func(n api.Node) api.Node { return specimen.Part(api.If, self, self, n) },
		"def":    func(n api.Node) api.Node { return specimen.Definition("f", nil, n, self) },
		"key":    func(n api.Node) api.Node { return specimen.Part(api.Index, self, n) },
		"pipe":   func(n api.Node) api.Node { return specimen.Part(api.Pipe, n, self) },
		"sub":    func(n api.Node) api.Node { return specimen.Part(api.Sub, self, n) },
		"eq":     func(n api.Node) api.Node { return specimen.Part(api.Eq, n, self) },
		"loop":   func(n api.Node) api.Node { return specimen.NamedPart(api.Reduce, "x", self, self, n) },
	} {
		n := around(self)
		if op == "pipe" || op == "sub" || op == "eq" { // the innermost one stands without brackets
			n = around(n)
		}
		for deep := 1; deep <= api.MaxNest+1; deep++ {
			s, e := show.Text(n)
			again, fault, _ := syntax.Parse(s)
			if read := fault == api.OK && syntax.Same(again, n); e != api.OK || nestOf(s) != deep || read != (deep <= api.MaxNest) || !read && fault != api.ErrNest {
				t.Errorf("%s nested %d deep (%d in its text): %d, read: %d", op, deep, nestOf(s), e, fault)
			}
			n = around(n)
		}
	}
}

// What goes on without brackets is read again, however long it is.
func TestP18_3Long(t *testing.T) {
	t.Parallel()
	const many = 1 << 16
	again := func(s string) string { return strings.Repeat(s, many) }
	keeps(t, again("- ")+"-1", again("1 | ")+"1", again("1 // ")+"1", again("1, ")+"1", again("1 + ")+"1", again("1 * ")+"1", again("1 and ")+"1", "(1)"+again("?"), "$x"+again(".a"), "."+again("[0]"), "."+again("[]"), "."+again("[1:]"), again("def f: 1; ")+"1", again("label $x | ")+"1", again(". as $x | ")+"1", again("reduce ")+"1"+again(" as $x (2; 3)"), again("foreach ")+"1"+again(" as $x (2; 3; 4)"))
	keeps(t, "["+again("1, ")+"1]", "{"+again("a: 1, ")+"b: 2}", `"`+again(`x\(1)`)+`"`, "f("+again("1; ")+"1)", "def f("+again("a; ")+"$b): 1; 2", `"`+again("x")+`"`, "1"+again("0"))
}

// Parts of every Op may be nested as deep as the document's bound, and deeper; and a long text costs what it is long.
func TestDeep(t *testing.T) {
	t.Parallel()
	const many = 1<<16 + 1000
	for _, form := range slices.Concat(least(), most()) {
		for at := range min(len(form.Kids), 4) {
			if !mayChange(form, at) {
				continue
			}
			n := withKid(form, at, form)
			inner, _ := show.Text(n)
			step, _ := show.Text(withKid(form, at, n))
			ahead, behind, _ := strings.Cut(step, inner)
			for range many {
				n = withKid(form, at, n)
			}
			if got, e := show.Text(n); e != api.OK || got != strings.Repeat(ahead, many)+inner+strings.Repeat(behind, many) {
				t.Errorf("%q, nested %d deep: %d, %d bytes", inner, many, e, len(got))
			}
		}
	}
}

// What comes in stays as it was, its spare room too.
func TestArguments(t *testing.T) {
	pick := pickOf(1836)
	all := slices.Concat(forms(), specimen.MisshapenFilters())
	for range 500 {
		all = append(all, specimen.DrawnFilter(pick, 4))
	}
	for _, n := range all {
		given := specimen.RoomyFilter(n)
		show.Text(given)
		if !specimen.UntouchedFilter(given, n) {
			t.Errorf("changed: %s", specimen.ToldFilter(n, true))
		}
	}
}

// A text that was answered stays, whatever is written into the filter.
func TestMemory(t *testing.T) {
	pick := pickOf(1837)
	for range 500 {
		n := specimen.DrawnFilter(pick, 4)
		own := specimen.RoomyFilter(n)
		s, _ := show.Text(own)
		specimen.ScribbleFilter(own)
		show.Text(own)
		if again, _ := show.Text(n); s != again {
			t.Errorf("Text = %q, and was %q", again, s)
		}
	}
}

func TestSameness(t *testing.T) {
	pick := pickOf(1838)
	var all []api.Node
	for range 300 {
		n := specimen.DrawnFilter(pick, 4)
		all = append(all, n, specimen.SpoiltFilter(n, pick))
	}
	if !specimen.AtOnce(func() string {
		var told strings.Builder
		for _, n := range all {
			s, e := show.Text(n)
			key, fault := show.Key(n.Text + n.Value.Text)
			fmt.Fprintln(&told, s, e, key, fault)
		}
		return told.String()
	}) {
		t.Error("the same calls answer otherwise")
	}
}

func FuzzAny(f *testing.F) {
	for _, s := range []string{"", "1 | 2", ".a[0]?", "def f(a; $b): 1; f(1; 2)", `"p\(.a)q\(1)"`, "{a, $b, if: 1, (1): 2}", "if 1 then 2 elif 3 then 4 end", "try try 1 catch 2 catch 3", "reduce . as $x (1; 2)", "foreach . as $x (1; 2; 3)", "label $l | break $l", "1 < 2 and - - 3 // 4", ".[1:] | .[:2] | ..", "\x07\x02\x0b\x0c\x0d\xff", "- -1 - (2 - 3)"} {
		f.Add(s)
	}
	w := newTeller()
	f.Fuzz(func(t *testing.T, s string) {
		want, e := keyOf(s)
		keyIs(t, s, want, e)
		if n, e, _ := syntax.Parse(s); e == api.OK {
			checkWords(t, w, n)
		} else {
			refuses(t, n)
		}
		pick := specimen.Picks([]byte(s))
		n := specimen.DrawnFilter(pick, 5)
		checkWords(t, w, n)
		refuses(t, specimen.SpoiltFilter(n, pick))
	})
}
