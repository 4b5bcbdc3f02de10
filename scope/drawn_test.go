package scope_test

import (
	"slices"
	"testing"

	"hallmark/api"
	"hallmark/scope"
	"hallmark/specimen"
	"hallmark/syntax"
)

// namesHere are few, so that they meet; some are those of functions that are built in.
func namesHere() []string {
	return []string{"f", "g", "x", "f", "g", "length", "error", "path", "getpath", "setpath", "range"}
}

// drawnNames is a filter that is drawn, with few names.
func drawnNames(pick specimen.Source, deep int) api.Node {
	few := 2 + pick(len(namesHere())-1)
	n := renamed(specimen.DrawnFilter(pick, deep), func(string) string { return namesHere()[pick(few)] })
	return withTaken(n, pick)
}

// withTaken is a filter some of whose Defs have become those of names that are taken, or of such ones with other numbers of parameters.
func withTaken(n api.Node, pick specimen.Source) api.Node {
	if n.Op == api.Def && pick(4) == 0 {
		n.Text = [...]string{"path", "getpath", "setpath"}[pick(3)]
		n.Names = [...][]string{{"$f"}, {"g"}, {"f", "$g"}, {}, {"f", "g", "$x"}}[pick(5)]
	}
	n.Kids = slices.Clone(n.Kids)
	for i, kid := range n.Kids {
		n.Kids[i] = withTaken(kid, pick)
	}
	return n
}

// mended is a filter in which most parts with a fault have become others without one.
func mended(n api.Node, pick specimen.Source, keep int, sees []string) api.Node {
	e, odds := faultOf(seer{n, sees}), keep
	if e == api.ErrTaken {
		odds = 2 // there are few of these, and most stand behind others
	}
	if e != api.OK && pick(odds) > 0 {
		return without(n, pick, keep, sees)
	}
	return mendedInside(n, pick, keep, sees)
}

// mendedInside is it inside a part.
func mendedInside(n api.Node, pick specimen.Source, keep int, sees []string) api.Node {
	n.Kids = slices.Clone(n.Kids)
	for i, kid := range n.Kids {
		if mayChange(n, i) {
			n.Kids[i] = mended(kid, pick, keep, slices.Concat(sees, besides(n, i)))
		}
	}
	return n
}

// without is a part with a fault that has become one without it: of the name of something that it sees, or in a part that binds its name.
func without(n api.Node, pick specimen.Source, keep int, sees []string) api.Node {
	self := specimen.Part(api.Self)
	switch {
	case n.Op == api.Def:
		n.Text = "h"
		return mendedInside(n, pick, keep, sees)
	case pick(2) == 0:
		return self
	case n.Op == api.Var:
		return specimen.NamedPart(api.Bind, n.Text, self, n)
	case n.Op == api.Break:
		return specimen.NamedPart(api.Label, n.Text, n)
	}
	outer := specimen.Definition(n.Text, slices.Repeat([]string{"p"}, len(n.Kids)), self, n)
	return mendedInside(outer, pick, keep, sees)
}

// Drawn filters of many names, of few ones, and ones in which few faults or none are left.
func TestP19_1Drawn(t *testing.T) {
	pick := pickOf(1911)
	told := map[api.Errno]int{}
	for i := range 8000 {
		n := drawnNames(pick, 1+i%6)
		checkWords(t, n)
		for _, keep := range []int{4, 40, 1 << 30} {
			other := mended(n, pick, keep, nil)
			checkWords(t, other)
			e, _ := scope.Check(other)
			told[e]++
		}
		checkWords(t, specimen.DrawnFilter(pick, 1+i%6))
	}
	for _, e := range []api.Errno{api.OK, api.ErrName, api.ErrLabel, api.ErrTaken} {
		if told[e] < 100 {
			t.Errorf("only %d of error %d", told[e], e)
		}
	}
}

// Filters that are drawn deep in one place, so that many names are seen there.
func TestP19_1DrawnDeep(t *testing.T) {
	pick := pickOf(1912)
	told := map[api.Errno]int{}
	for range 1000 {
		n := drawnNames(pick, 2)
		for range pick(60) {
			n = drawnAround(pick, n)
		}
		checkWords(t, n)
		n = mended(n, pick, 1+pick(200), nil)
		checkWords(t, n)
		e, _ := scope.Check(n)
		told[e]++
	}
	for _, e := range []api.Errno{api.OK, api.ErrName, api.ErrLabel, api.ErrTaken} {
		if told[e] < 20 {
			t.Errorf("only %d of error %d", told[e], e)
		}
	}
}

// drawnAround is a part that is drawn, with this one as a kid.
func drawnAround(pick specimen.Source, kid api.Node) api.Node {
	for {
		n := drawnNames(pick, 2)
		if len(n.Kids) == 0 {
			continue
		}
		if at := pick(len(n.Kids)); mayChange(n, at) {
			return withKid(n, at, kid)
		}
	}
}

func TestP19_1DrawnSpoilt(t *testing.T) {
	pick := pickOf(1913)
	for i := range 3000 {
		refuses(t, specimen.SpoiltFilter(drawnNames(pick, 1+i%6), pick))
	}
}

// Filters that differ in one field of one part: well shaped or not, each is answered as the words say.
func TestP19_1Nudged(t *testing.T) {
	pick := pickOf(1914)
	for range 200 {
		for _, n := range specimen.NudgedFilters(drawnNames(pick, 4)) {
			if syntax.Formed(n) {
				checkWords(t, n)
			} else {
				refuses(t, n)
			}
		}
	}
}

func FuzzAny(f *testing.F) {
	for _, s := range []string{"", "f", "length | $x", "def f(a; $b): a | b | $b; f(1; 2)", "def path(f): 1; 2", "reduce .[] as $x ($x; $x)", "foreach .[] as $x (0; $x; $x) | $x", "label $l | break $l, break $m", "(. as $x | $x) | $x", "def f: g; def g: f; g(.)", "\x20\x00\x01\x1f\x02\x05\x21", "error(error) | range(1; 2) | setpath([]; .)"} {
		f.Add(s, 1)
	}
	f.Fuzz(func(t *testing.T, s string, many int) {
		builtinIs(t, s, many, listed(s, many))
		if n, e, _ := syntax.Parse(s); e == api.OK {
			checkWords(t, n)
		} else {
			refuses(t, n)
		}
		pick := specimen.Picks([]byte(s))
		n := drawnNames(pick, 5)
		checkWords(t, n)
		checkWords(t, mended(n, pick, 4, nil))
		refuses(t, specimen.SpoiltFilter(n, pick))
	})
}
