package library_test

import (
	"slices"
	"strings"
	"testing"

	"hallmark/api"
	"hallmark/library"
	"hallmark/scope"
	"hallmark/specimen"
	"hallmark/syntax"
)

// line is one of the chapter's, with what one reads off it: its name, and those of the definitions that it calls freely.
type line struct{ text, name, calls string }

// lines are the chapter's, in their order.
func lines() []line {
	return []line{
		{`def map(f): [.[] | f];`, "map/1", ""},
		{`def select(f): if f then . else empty end;`, "select/1", ""},
		{`def recurse(f): def r: ., (f | r); r;`, "recurse/1", ""},
		{`def recurse: recurse(.[]?);`, "recurse/0", "recurse/1"},
		{`def values: select(. != null);`, "values/0", "select/1"},
		{`def nulls: select(. == null);`, "nulls/0", "select/1"},
		{`def booleans: select(type == "boolean");`, "booleans/0", "select/1"},
		{`def numbers: select(type == "number");`, "numbers/0", "select/1"},
		{`def strings: select(type == "string");`, "strings/0", "select/1"},
		{`def arrays: select(type == "array");`, "arrays/0", "select/1"},
		{`def objects: select(type == "object");`, "objects/0", "select/1"},
		{`def iterables: select(type == "array" or type == "object");`, "iterables/0", "select/1"},
		{`def scalars: select(type != "array" and type != "object");`, "scalars/0", "select/1"},
		{`def range($n): range(0; $n);`, "range/1", ""},
		{`def sort_by(f): _sort_by(map([f]));`, "sort_by/1", "map/1"},
		{`def group_by(f): _group_by(map([f]));`, "group_by/1", "map/1"},
		{`def unique_by(f): _unique_by(map([f]));`, "unique_by/1", "map/1"},
		{`def min_by(f): _min_by(map([f]));`, "min_by/1", "map/1"},
		{`def max_by(f): _max_by(map([f]));`, "max_by/1", "map/1"},
		{`def to_entries: [keys[] as $k | {key: $k, value: .[$k]}];`, "to_entries/0", ""},
		{`def from_entries: reduce .[] as $e ({}; . + {($e | .key): $e.value});`, "from_entries/0", ""},
		{`def with_entries(f): to_entries | map(f) | from_entries;`, "with_entries/1", "from_entries/0 map/1 to_entries/0"},
		{`def any(f): reduce .[] as $x (false; . or ($x | f));`, "any/1", ""},
		{`def any: any(.);`, "any/0", "any/1"},
		{`def all(f): reduce .[] as $x (true; . and ($x | f));`, "all/1", ""},
		{`def all: all(.);`, "all/0", "all/1"},
		{`def first(f): label $out | (f | ., break $out);`, "first/1", ""},
		{`def first: .[0];`, "first/0", ""},
		{`def last(f): reduce f as $x (null; $x);`, "last/1", ""},
		{`def last: .[-1];`, "last/0", ""},
		{`def limit($n; f): if $n > 0 then label $out | foreach f as $x (0; . + 1; $x, if . >= $n then break $out else empty end) else empty end;`, "limit/2", ""},
		{`def nth($n): .[$n];`, "nth/1", ""},
		{`def nth($n; f): last(limit($n + 1; f));`, "nth/2", "last/1 limit/2"},
		{`def isempty(f): label $out | ((f | false, break $out), true);`, "isempty/1", ""},
		{`def isvalid(f): try (f | true) catch false;`, "isvalid/1", ""},
		{`def until(c; u): def r: if c then . else u | r end; r;`, "until/2", ""},
		{`def while(c; u): def r: if c then ., (u | r) else empty end; r;`, "while/2", ""},
		{`def index($x): indices($x) | .[0];`, "index/1", ""},
		{`def rindex($x): indices($x) | .[-1];`, "rindex/1", ""},
		{`def in(x): . as $k | x | has($k);`, "in/1", ""},
		{`def inside(x): . as $v | x | contains($v);`, "inside/1", ""},
		{`def del(f): delpaths([path(f)]);`, "del/1", ""},
		{`def paths: path(..) | select(length > 0);`, "paths/0", "recurse/0 select/1"},
		{`def paths(f): . as $v | paths | select(. as $p | $v | getpath($p) | f);`, "paths/1", "paths/0 select/1"},
		{`def leaf_paths: paths(scalars);`, "leaf_paths/0", "paths/1 scalars/0"},
		{`def pick(f): . as $v | reduce path(f) as $p (null; setpath($p; $v | getpath($p)));`, "pick/1", ""},
		{`def walk(f): def w: if type == "object" then with_entries(.value |= w) elif type == "array" then map(w) else . end | f; w;`, "walk/1", "map/1 with_entries/1"},
	}
}

// neededOf are the lines that a filter with these free names needs: those of these names, and those that they call, till none comes in any more.
func neededOf(free []string) []line {
	names := slices.Clone(free)
	for many := 0; many < len(names); {
		many = len(names)
		for _, l := range lines() {
			if slices.Contains(names, l.name) {
				names = append(names, strings.Fields(l.calls)...)
			}
		}
		slices.Sort(names)
		names = slices.Compact(names)
	}
	return slices.DeleteFunc(lines(), func(l line) bool { return !slices.Contains(names, l.name) })
}

// definition is a line's Def in front of a filter.
func definition(t *testing.T, l line, rest api.Node) api.Node {
	t.Helper()
	n := specimen.PlacedFilter(parsed(t, l.text+" ."), -1)
	n.Kids[1] = rest
	return n
}

// inFront is a filter with definitions in front, the first one outermost.
func inFront(t *testing.T, needed []line, n api.Node) api.Node {
	t.Helper()
	for _, l := range slices.Backward(needed) {
		n = definition(t, l, n)
	}
	return n
}

// withOf is With, by the chapter's words.
func withOf(t *testing.T, n api.Node) (api.Node, api.Errno, int) {
	t.Helper()
	if !syntax.Formed(n) {
		return api.Node{}, api.ErrShape, 0
	}
	free, _ := scope.Free(n)
	out := inFront(t, neededOf(free), n)
	if e, at := scope.Check(out); e != api.OK {
		return api.Node{}, e, at
	}
	return out, api.OK, 0
}

// answers holds With of a filter to an answer, part by part and place by place.
func answers(t *testing.T, n, want api.Node, e api.Errno, at int) {
	t.Helper()
	got, gotE, gotAt := library.With(n)
	if !specimen.EqualFilters(got, want) || gotE != e || gotAt != at {
		t.Errorf("With(%.500s) = %.1000s, %d, %d, want %.1000s, %d, %d", told(n), told(got), gotE, gotAt, told(want), e, at)
	}
}

func told(n api.Node) string { return specimen.ToldFilter(n, true) }

// refuses holds it to an error beside no filter.
func refuses(t *testing.T, n api.Node, e api.Errno, at int) {
	t.Helper()
	answers(t, n, api.Node{}, e, at)
}

// checkWords holds With of any filter to the chapter's words, and to what follows of them.
func checkWords(t *testing.T, n api.Node) api.Errno {
	t.Helper()
	want, e, at := withOf(t, n)
	answers(t, n, want, e, at)
	follows(t, n)
	return e
}

// follows holds it to P22.3 alone: what is answered is closed, With of it is it, and a closed filter is answered as it is.
func follows(t *testing.T, n api.Node) {
	t.Helper()
	out, e, _ := library.With(n)
	if closed, _ := scope.Check(n); closed == api.OK {
		answers(t, n, n, api.OK, 0)
	}
	if e != api.OK {
		return
	}
	if open, at := scope.Check(out); open != api.OK || at != 0 {
		t.Errorf("With(%.500s) isn't closed: %d, %d", told(n), open, at)
	}
	answers(t, out, out, api.OK, 0)
}
