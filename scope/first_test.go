package scope_test

import (
	"slices"
	"strconv"
	"strings"
	"testing"

	"hallmark/api"
	"hallmark/specimen"
)

// numbered is a filter whose places are the numbers of its parts, each ahead of its kids, from this one on; and the number behind the last.
func numbered(n api.Node, from int) (api.Node, int) {
	n.At = from
	from++
	n.Kids = slices.Clone(n.Kids)
	for i, kid := range n.Kids {
		n.Kids[i], from = numbered(kid, from)
	}
	return n, from
}

// closedForms are parts of all Ops, with as many kids as there may be, in each of which any part may stand but for the texts of a Join and the Nones of a Slice.
func closedForms() []api.Node {
	var out []api.Node
	for _, form := range specimen.FilterForms() {
		if form.Op == api.Call || form.Op == api.Var || form.Op == api.Break {
			continue
		}
		out = append(out, form)
	}
	for many := range 8 {
		n := calling("f", many)
		out = append(out, specimen.Definition("f", slices.Repeat([]string{"a"}, many), specimen.Part(api.Self), n))
	}
	return out
}

// mayChange says whether any part may stand at the place of a kid.
func mayChange(n api.Node, at int) bool {
	return n.Kids[at].Op != api.None && (n.Op != api.Join || at%2 == 1)
}

// withKid is a part with another kid at a place.
func withKid(n api.Node, at int, kid api.Node) api.Node {
	n.Kids = slices.Clone(n.Kids)
	n.Kids[at] = kid
	return n
}

// faulty are parts with a fault of their own, whatever they see of the names that are bound in forms.
func faulty() map[api.Errno][]api.Node {
	self := specimen.Part(api.Self)
	return map[api.Errno][]api.Node{
		api.ErrName:  {calling("nobody", 0), calling("nobody", 2), specimen.NamedPart(api.Var, "nobody")},
		api.ErrLabel: {specimen.NamedPart(api.Break, "nobody")},
		api.ErrTaken: {specimen.Definition("path", []string{"a"}, self, self), specimen.Definition("getpath", []string{"$a"}, self, self), specimen.Definition("setpath", []string{"a", "b"}, self, self)},
	}
}

// Every form of every Op is closed, and one fault in it is found at its place.
func TestP19_1One(t *testing.T) {
	for _, form := range closedForms() {
		n, _ := numbered(form, 700)
		checks(t, n, api.OK, 0)
		frees(t, n)
		for at := range form.Kids {
			if !mayChange(form, at) {
				continue
			}
			for e, parts := range faulty() {
				for _, part := range parts {
					n, _ := numbered(withKid(form, at, part), 700)
					checks(t, n, e, n.Kids[at].At)
				}
			}
		}
	}
}

// Of all choices of kids that have faults the first one's is told, and that of the part itself ahead of them all.
func TestP19_1First(t *testing.T) {
	for _, form := range closedForms() {
		for choice := 1; choice < 1<<len(form.Kids); choice++ {
			for e, parts := range faulty() {
				checkFirst(t, form, choice, e, parts[0])
			}
		}
	}
	for _, e := range []api.Errno{api.ErrName, api.ErrLabel, api.ErrTaken} {
		n := calling("nobody", 3)
		n.Kids[1] = faulty()[e][0]
		n, _ = numbered(n, 40)
		checks(t, n, api.ErrName, 40)
		taken := specimen.Definition("path", []string{"a"}, faulty()[e][0], faulty()[e][0])
		taken, _ = numbered(taken, 50)
		checks(t, taken, api.ErrTaken, 50)
	}
}

// checkFirst puts a fault at the first chosen kid of a form, and others at the other ones.
func checkFirst(t *testing.T, form api.Node, choice int, e api.Errno, first api.Node) {
	t.Helper()
	n, found := form, -1
	for at := range form.Kids {
		if choice>>at&1 == 0 || !mayChange(form, at) {
			continue
		}
		if found < 0 {
			n, found = withKid(n, at, first), at
			continue
		}
		n = withKid(n, at, specimen.Part(api.Pipe, specimen.NamedPart(api.Break, "another"), specimen.NamedPart(api.Var, "another")))
	}
	if n, _ = numbered(n, 1); found >= 0 {
		checks(t, n, e, n.Kids[found].At)
	}
}

// The order is that of the parts, not of their places.
func TestP19_1Order(t *testing.T) {
	fails(t, api.ErrName, "@$x | $y", "(@$x, $y) | break $z", "1 | @f($x; break $y)", "[@$y, $x]", "{(@$a): $b, c: $d}", "@f + g", ". as $x | @$y + break $x", "def f: @$y; $z", "def f: @$y; def path(a): .; .", "if @$a then break $b else $c end", "reduce @$a as $x (break $b; $c)", "@f(def path(a): .; .)", "try @$x catch break $y", "@$x[break $y]", "@$x[$y:$z]", "@$x = $y", `"\(@$x)\(break $y)"`)
	fails(t, api.ErrLabel, "@break $x | $y", "(1, @break $x) | $z", "foreach . as $x (.; @break $x; $y)", "length | @break $x, f", "def f: @break $x; def path(a): $y; .")
	fails(t, api.ErrTaken, "@def path(f): $x; break $y", "(@def getpath(f): $x; f), $y", "def f: .; @def setpath(a; b): $x; $y", "length | @def path(f): def getpath(f): .; .; .")
	low, high := specimen.NamedPart(api.Var, "low"), specimen.NamedPart(api.Break, "high")
	for _, ats := range [][2]int{{1, 2}, {2, 1}, {-7, 7}, {7, -7}, {0, 0}, {-1 << 62, 1 << 62}, {1 << 62, -1 << 62}} {
		low.At, high.At = ats[0], ats[1]
		checks(t, specimen.Part(api.Add, low, high), api.ErrName, ats[0])
		checks(t, specimen.Part(api.Add, high, low), api.ErrLabel, ats[1])
	}
}

// In long rows of kids the first is told, and what stands far behind is found.
func TestP19_1Far(t *testing.T) {
	const many = 5000
	for op, length := range map[int]int{api.Call: many, api.Record: many, api.Join: many + 1} {
		for _, at := range []int{1, 2, 17, many / 2, many - 1} {
			kids := slices.Repeat([]api.Node{specimen.Constant(specimen.Text("a"))}, length)
			kids[at|1], kids[many-1] = specimen.NamedPart(api.Var, "far"), specimen.NamedPart(api.Var, "far")
			n, _ := numbered(specimen.Definition("f", slices.Repeat([]string{"$g"}, len(kids)), specimen.Part(api.Self), specimen.OfOp(op, kids...)), 10)
			checks(t, n, api.ErrName, n.Kids[1].Kids[at|1].At)
			frees(t, n, "$far")
		}
	}
}

func TestP19_2Rows(t *testing.T) {
	for s, want := range map[string]string{
		".":                          "",
		"f":                          "f/0",
		"f | f | f(.) | f":           "f/0 f/1",
		"$x, $x, break $x, x":        "$x *x x/0",
		"b | a | c | $b | $a | $c":   "$a $b $c a/0 b/0 c/0",
		"break $z | break $a | $y":   "$y *a *z",
		"a, A, _, z, Z, a1, aa, a_":  "A/0 Z/0 _/0 a/0 a1/0 a_/0 aa/0 z/0",
		"$a, $A, $_, $a1, $aa":       "$A $_ $a $a1 $aa",
		"f(.;.) | f | f(.)":          "f/0 f/1 f/2",
		"f(g(h($x)); break $y)":      "$x *y f/2 g/1 h/1",
		"length | path(.) | error":   "",
		"length(.) | path | $length": "$length length/1 path/0",
		"def f: g; f | h":            "g/0 h/0",
		"def f(a): a | b; a | f(.)":  "a/0 b/0",
		"def f($a): a | $a; $a | a":  "$a a/0",
		"def f(a): $a; .":            "$a",
		"def f: .; f(.)":             "f/1",
		"def f(a): f; .":             "f/0",
		"$x as $x | $x":              "$x",
		"$x as $y | $y":              "$x",
		". as $x | $y":               "$y",
		"reduce $x as $x (.; $x)":    "$x",
		"reduce . as $x ($x; $x)":    "$x",
		"reduce . as $x (.; $x)":     "",
		"foreach $x as $x (.; .; .)": "$x",
		"foreach . as $x ($x; .; .)": "$x",
		"foreach . as $x (.; $x)":    "",
		"foreach . as $x (.; .; $y)": "$y",
		"label $x | break $x":        "",
		"label $x | break $y":        "*y",
		"label $x | $x":              "$x",
		"(label $x | .), break $x":   "*x",
		"(. as $x | $x), $x":         "$x",
		"$x, (. as $x | $x)":         "$x",
		"def path(f): g; path(.)":    "g/0",
		"def path(f): .; 1":          "",
		"..":                         "recurse/0",
		"map(select(.a)) | first":    "first/0 map/1 select/1",
		`"\($x)\(f)" | {a: $y, $z}`:  "$x $y $z f/0",
		".[$a:$b] | .[$c]? // $d":    "$a $b $c $d",
		"try f catch g | -h":         "f/0 g/0 h/0",
		"$a |= $b | .c += $d":        "$a $b $d",
	} {
		frees(t, parsed(t, s), strings.Fields(want)...)
		checkWords(t, parsed(t, s))
	}
}

// Functions with numbers of arguments of one digit and of several: by their bytes 10 stands ahead of 2.
func TestP19_2Digits(t *testing.T) {
	var kids []api.Node
	var want []string
	for _, many := range []int{2, 10, 1, 0, 100, 9, 11, 1234, 99, 12, 3, 20, 1000, 65536} {
		kids = append(kids, calling("f", many), calling("g", many))
		want = append(want, "f/"+strconv.Itoa(many), "g/"+strconv.Itoa(many))
	}
	slices.Sort(want)
	frees(t, specimen.Part(api.Record, kids...), want...)
	if want[2] != "f/10" || want[8] != "f/2" {
		t.Errorf("%q", want)
	}
}

// Very many names, each of them several times, in any order.
func TestP19_2Many(t *testing.T) {
	const many = 20000
	var kids []api.Node
	for i := range 3 * many {
		name := "n" + strconv.Itoa(i*7919%many)
		kids = append(kids, specimen.NamedPart([]int{api.Var, api.Break, api.Call}[i%3], name))
	}
	n := specimen.Part(api.Record, kids...)
	frees(t, n, freeOf(n)...)
}
