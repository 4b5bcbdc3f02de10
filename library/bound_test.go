package library_test

import (
	"slices"
	"testing"

	"hallmark/api"
	"hallmark/specimen"
)

// Names that the filter itself binds, as definitions or as parameters, aren't free where they are seen.
func TestP22_2Bound(t *testing.T) {
	needs(t, "",
		"def map(f): .; map(.a)", "def map(f): map(f); map(.)", "def map($f): $f; map(1)", "def first: .; first", "def recurse: .; ..", "def recurse: .; .. | recurse", "def range($n): $n; range(1)",
		"def f(map): map; f(.)", "def f($first): first; f(1)", "def f($first): first, $first; f(1)", "def f(first; last): first | last; f(1; 2)", "def f(recurse): ..; f(.)",
		"def any: 1; def all: any; all", "def map(map): map; map(map(.))", "def limit(a; b): a, b; limit(1; limit(2; 3))", "[def map(f): f; map(.)]", "def f: def map(g): .; map(.); f")
	needs(t, "map/1",
		"(def map(f): .; map(.)) | map(.)", "map(.) | def map(f): f; map(.)", "[(def map(f): .; map(.)), map(.)]", "def f: def map(g): .; map(.); f | map(.)", "map(def map(f): f; map(.))", "def f: map(.); def map(g): .; f | map(.)", "(map(.) | .) as $x | def map(f): $x; map(.)")
	needs(t, "first/0", "def f(first): first; first", "def f($first): $first; first", "def f(first): .; def g: first; g", "(def first: .; first) | first", "first as $first | $first", "label $first | first")
	needs(t, "recurse/1 recurse/0", "(def recurse: .; ..) | ..", "def f(recurse): .; ..")
	fails(t, api.ErrName, "def f(first): first; @first(.; .)", "def first: .; @last(.; .)", "def map(f): f; @$map", "first as $x | @$first")
}

// The same names with another number of parameters are other functions.
func TestP22_2OtherArities(t *testing.T) {
	needs(t, "map/1", "def map: .; map(.a)", "def map(f; g): .; map(.a)", "def map: .; def map(f; g): .; map | map(.; map(.))", "def f(map): map(.); f(.)", "def f($map): map(.), map, $map; f(.)", "def map: map(.); map")
	needs(t, "first/1", "def first: .; first(.)", "def first: .; first | first(first)", "def f(first): first(first); f(.)", "def f($first): first(.), $first; f(1)")
	needs(t, "first/0", "def first(f): f; first", "def first(f): f; first(first)", "def first(f; g): .; first")
	needs(t, "recurse/1 recurse/0", "def recurse(f): f; ..", "def recurse(f; g): .; .. | recurse(.; .)")
	needs(t, "recurse/1", "def recurse: .; recurse(.)", "def recurse: .; recurse(..)")
	needs(t, "any/1", "def any: .; any(any)")
	needs(t, "any/1 any/0", "def any(f): f; any", "def any(f): any; any(.)")
	needs(t, "", "def range: .; range", "def nth: .; nth", "def paths(a; b): .; paths(.; .)", "def range: .; range | range(1; 2)")
	needs(t, "range/1", "def range: .; range(range)")
	fails(t, api.ErrName, "@map", "@map(.; .)", "@select", "@limit(1)", "@nth", "@first(.; .)", "@range", "@range(1; 2; 3)", "@walk", "@to_entries(.)", "@keys(.)", "map(.) | @map", "def map(f): f; @map", "def f: .; @f(map(.))", "def map: .; @map(.; .)", "@_sort_by", "@sort_by(.; .)", "@del", "@in", "@recurse(.; .)", "@values(.)")
}

// What a filter binds is nothing to the definitions in front of it: they call what the library says.
func TestP22_2Apart(t *testing.T) {
	const paths = "select/1 recurse/1 recurse/0 paths/0"
	needs(t, paths, "def select(f): .; paths", "def select(f): .; select(.) | paths", "def recurse: .; paths | ..", "def select(f): .; def recurse(f): .; def recurse: .; paths", "def f(select; recurse): paths; f(.; .)", "def type: 1; paths", "def length: 1; paths | length", "def empty: 1; def select(f): empty; paths")
	needs(t, "map/1 sort_by/1", "def map(f): .; sort_by(.)", "def _sort_by(f): .; sort_by(.) | _sort_by(.)", "def f(map): sort_by(map); f(.)")
	needs(t, "map/1 to_entries/0 from_entries/0 with_entries/1 walk/1", "def map(f): 1; def with_entries(f): 2; walk(.)", "def to_entries: .; def from_entries: .; walk(to_entries | from_entries)")
	needs(t, "range/1", "def range(a; b): 7; range(1)")
	needs(t, "any/1 any/0", "def any(f): 1; any | any(.)")
}

// What stands inside the definitions isn't seen behind them: neither their parameters nor what their bodies bind; nor do their bodies bind what stands in arguments.
func TestP22_2Inside(t *testing.T) {
	fails(t, api.ErrName,
		"map(.) | @f", "map(@f)", "select(@f)", "limit(1; .) | @$n", "limit(@$n; .)", "limit(1; @$x)", "limit(1; @n)", "range(@$n)", "range(@n)", "nth(1) | @n", "recurse(.) | @r", "recurse(@r)", "while(.; @r)", "until(@r; .)", "until(.; @c)", "while(@u; .)", "walk(@w)", "walk(.) | @w",
		"any(@$x)", "all(@$x)", "last(@$x)", "to_entries | @$k", "from_entries | @$e", "in(@$k)", "inside(@$v)", "paths(@$p)", "paths(@$v)", "pick(@$p)", "pick(@$v)", "index(@$x)", "index(@x)", "in(@x)")
	fails(t, api.ErrLabel, "first(@break $out)", "first(.) | @break $out", "isempty(@break $out)", "limit(1; @break $out)", "limit(@break $out; .)", "nth(1; @break $out)")
	needs(t, "first/1", "label $out | first(break $out)", "def f: .; first(f)", ". as $x | first($x)")
	needs(t, "last/1 limit/2 nth/2", "label $out | . as $n | . as $x | nth($n; $x, break $out)")
}

// Names that stand for nothing, definitions in front or not: scope's error, and the place in the filter.
func TestP22_2Nothing(t *testing.T) {
	fails(t, api.ErrName, "@foo", "1 | @foo", "@$x", "@$x | map(.)", "map(.) | @$x", "map(@foo)", "@foo(map(.))", "map(.a) | @foo | $x | break $y", "map(@$map)", "def f: @g; f", "def f: @g; def g: 1; f", ". as $x | first(@$y)", "reduce .[] as $x (@$x; map(.))", "first | @foo | first", "..[@foo]", "[.[] | {a: map(@foo)}]", `"\(map(@foo))"`, "@foo | ..")
	fails(t, api.ErrLabel, "@break $x", "map(@break $x)", "map(.) | @break $x | foo", "label $x | map(break $x) | @break $y", "(label $x | first) | @break $x", "@break $first")
	fails(t, api.ErrTaken, "@def path(f): .; map(.)", "map(.) | @def getpath(f): .; .", "first(@def setpath(a; b): .; .)", "@def path(f): foo; foo", "def f: @def path($g): paths; .; f")
	fails(t, api.ErrName, "@foo | def path(f): .; .", "map(@$x) | break $y")
	fails(t, api.ErrLabel, "map(@break $y) | $x")
	needs(t, "select/1 recurse/1 recurse/0 paths/0", "def path: .; paths | path", "def path(a; b): .; paths")
	for _, at := range []int{-1, 0, 1, -1 << 62, 1 << 62} {
		unknown := specimen.NamedPart(api.Call, "foo")
		unknown.At = at
		refuses(t, unknown, api.ErrName, at)
		refuses(t, specimen.Part(api.Pipe, calling("walk/1", specimen.Part(api.Self)), unknown), api.ErrName, at)
	}
}

// A call of each definition as each kid of each Op, with and without others that bind something around it.
func TestP22_2Places(t *testing.T) {
	told := map[api.Errno]int{}
	for _, l := range lines() {
		for _, around := range specimen.AroundFilter(calling(l.name, specimen.Part(api.Self))) {
			told[checkWords(t, around)]++
			name, arity := specimen.Function(l.name)
			bound := specimen.Definition(name, slices.Repeat([]string{"$g"}, arity), around, around)
			told[checkWords(t, bound)]++
		}
	}
	if told[api.OK] < 3000 || told[api.ErrName] < 1000 {
		t.Errorf("told: %v", told)
	}
}

// Filters that aren't well shaped, at the top and inside others, whatever they call.
func TestP22_2Misshapen(t *testing.T) {
	call := calling("map/1", specimen.Part(api.Self))
	unknown := specimen.NamedPart(api.Call, "foo")
	for _, n := range specimen.MisshapenFilters() {
		n.At = 5
		refuses(t, n, api.ErrShape, 0)
		if n.Op == api.None {
			n.Text = "f" // a None may stand in a Slice
		}
		for _, around := range append(specimen.AroundFilter(n), specimen.Part(api.Pipe, call, n), specimen.Part(api.Pipe, n, unknown), specimen.Part(api.Pipe, unknown, n), specimen.NamedPart(api.Call, "map", n), specimen.NamedPart(api.Call, "foo", n)) {
			around.At = 6
			refuses(t, around, api.ErrShape, 0)
		}
	}
}
