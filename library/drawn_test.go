package library_test

import (
	"slices"
	"strconv"
	"strings"
	"testing"

	"hallmark/api"
	"hallmark/specimen"
	"hallmark/syntax"
)

// nameOf is a name of the library, of a definition with so many parameters, if there is one and it isn't left to chance.
func nameOf(pick specimen.Source, arity int) string {
	var all []string
	for _, l := range lines() {
		if name, digits, _ := strings.Cut(l.name, "/"); digits == strconv.Itoa(arity) || pick(40) == 0 {
			all = append(all, name)
		}
	}
	if len(all) == 0 {
		return "map"
	}
	return all[pick(len(all))]
}

// drawnCalls is a filter that is drawn, with names of the library; few of its variables and breaks ask for what nothing binds.
func drawnCalls(pick specimen.Source, deep int) api.Node {
	return ofLibrary(specimen.DrawnFilter(pick, deep), pick)
}

// ofLibrary is a filter with other names.
func ofLibrary(n api.Node, pick specimen.Source) api.Node {
	switch n.Op {
	case api.Var, api.Break:
		if pick(20) > 0 {
			return api.Node{Op: api.Self, At: n.At}
		}
	case api.Call:
		if len(n.Kids) > 2 {
			n.Kids = n.Kids[:pick(3)]
		}
		n.Text = nameOf(pick, len(n.Kids))
	case api.Def:
		n = definedAnew(n, pick)
	}
	n.Kids = slices.Clone(n.Kids)
	for i, kid := range n.Kids {
		n.Kids[i] = ofLibrary(kid, pick)
	}
	return n
}

// definedAnew is a Def of a name of the library, with such names as parameters.
func definedAnew(n api.Node, pick specimen.Source) api.Node {
	n.Text, n.Names = nameOf(pick, len(n.Names)), slices.Clone(n.Names)
	if pick(8) == 0 {
		n.Text, n.Names = "getpath", []string{"f"}
	}
	for i := range n.Names {
		n.Names[i] = [...]string{"", "$"}[pick(2)] + nameOf(pick, 0)
	}
	return n
}

func TestP22_2Drawn(t *testing.T) {
	pick := pickOf(2221)
	told, open := map[api.Errno]int{}, 0
	for i := range 6000 {
		n := drawnCalls(pick, 1+i%6)
		if checkWords(t, n) == api.OK && len(freeOf(n)) > 0 {
			open++
		}
		told[checkWords(t, specimen.DrawnFilter(pick, 1+i%6))]++
		told[checkWords(t, specimen.SpoiltFilter(n, pick))]++
		told[checkWords(t, n)]++
	}
	if told[api.OK] < 2000 || told[api.ErrShape] < 2000 || told[api.ErrName] < 500 || told[api.ErrLabel] < 100 || told[api.ErrTaken] < 50 || open < 1000 {
		t.Errorf("told: %v, with definitions in front %d", told, open)
	}
}

// Filters that differ in one field of one part: well shaped or not, each is answered as the words say.
func TestP22_2Nudged(t *testing.T) {
	pick := pickOf(2222)
	for range 100 {
		for _, n := range specimen.NudgedFilters(drawnCalls(pick, 4)) {
			checkWords(t, n)
		}
	}
}

func FuzzAny(f *testing.F) {
	for _, s := range []string{"", "map(.a)", "..", "first | first(.)", "any", "foo", "$x | map(.)", "def map(f): .; map(.a) | map", "walk(leaf_paths)", "def path(f): .; paths", "label $out | first(break $out)", "limit(1; break $out)", "nth(1; .) | range(1; 2) | range(3)", "\x20\x00\x01\x20\x02\x05\x21\x1f", `"\(map(@foo))"`} {
		f.Add(s)
	}
	f.Fuzz(func(t *testing.T, s string) {
		n, _, _ := syntax.Parse(s)
		checkWords(t, n)
		pick := specimen.Picks([]byte(s))
		n = drawnCalls(pick, 5)
		checkWords(t, n)
		checkWords(t, specimen.SpoiltFilter(n, pick))
	})
}
