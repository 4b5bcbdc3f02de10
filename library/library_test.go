package library_test

import (
	"math/rand"
	"slices"
	"strconv"
	"strings"
	"testing"

	"hallmark/api"
	"hallmark/library"
	"hallmark/scope"
	"hallmark/specimen"
	"hallmark/syntax"
	"hallmark/word"
)

func pickOf(seed int64) specimen.Source { return rand.New(rand.NewSource(seed)).Intn }

func parsed(t *testing.T, s string) api.Node {
	t.Helper()
	n, e, at := syntax.Parse(s)
	if e != api.OK {
		t.Fatalf("Parse(%.300q): %d at %d", s, e, at)
	}
	return n
}

// calling is a Call of what scope writes so, each argument being this one.
func calling(written string, argument api.Node) api.Node {
	name, arity := specimen.Function(written)
	n := specimen.NamedPart(api.Call, name, slices.Repeat([]api.Node{argument}, arity)...)
	n.At = 5
	return n
}

// named are lines by their names.
func named(t *testing.T, names string) []line {
	t.Helper()
	var out []line
	for _, name := range strings.Fields(names) {
		at := slices.IndexFunc(lines(), func(l line) bool { return l.name == name })
		if at < 0 {
			t.Fatalf("no line is %s", name)
		}
		out = append(out, lines()[at])
	}
	return out
}

// needs holds With of texts to these definitions in front of the filter as it is.
func needs(t *testing.T, names string, texts ...string) {
	t.Helper()
	for _, s := range texts {
		n := parsed(t, s)
		answers(t, n, inFront(t, named(t, names), n), api.OK, 0)
		checkWords(t, n)
	}
}

// fails holds With of texts to an error, at the place of the first @ in each, which is no part of it.
func fails(t *testing.T, e api.Errno, texts ...string) {
	t.Helper()
	for _, s := range texts {
		ahead, behind, _ := strings.Cut(s, "@")
		n := parsed(t, ahead+behind)
		refuses(t, n, e, len(ahead))
		checkWords(t, n)
	}
}

func TestExamples(t *testing.T) {
	if got := library.Names(); !slices.Equal(got[:4], []string{"map/1", "select/1", "recurse/1", "recurse/0"}) {
		t.Errorf("Names() = %q", got)
	}
	needs(t, "map/1", "map(.a)")
	n, _, _ := library.With(parsed(t, "map(.a)"))
	if body := parsed(t, "[.[] | f]"); n.Op != api.Def || n.Text != "map" || !slices.Equal(n.Names, []string{"f"}) || !syntax.Same(n.Kids[0], body) || !specimen.EqualFilters(n.Kids[1], parsed(t, "map(.a)")) {
		t.Errorf("With(map(.a)) = %s", told(n))
	}
	needs(t, "first/0", ".[] | first")
	needs(t, "any/1 any/0", "any")
	needs(t, "", ".a", "def map(f): .; map(.a)")
	fails(t, api.ErrName, "@foo")
}

func TestP22_1Text(t *testing.T) {
	var want strings.Builder
	for _, l := range lines() {
		want.WriteString(l.text + "\n")
	}
	if got := library.Text(); got != want.String() {
		for i, l := range strings.SplitAfter(got, "\n") {
			if i >= len(lines()) && l != "" || i < len(lines()) && l != lines()[i].text+"\n" {
				t.Errorf("line %d is %q", i, l)
			}
		}
		t.Errorf("Text() has %d bytes, want %d", len(got), want.Len())
	}
	if len(library.Text()) != 2120 {
		t.Errorf("Text() has %d bytes", len(library.Text()))
	}
}

// The text, with a filter's text behind it, is that filter with all definitions in front.
func TestP22_1Read(t *testing.T) {
	n := parsed(t, library.Text()+".")
	if !syntax.Same(n, inFront(t, lines(), specimen.Part(api.Self))) {
		t.Errorf("it is %s", told(n))
	}
	if e, at := scope.Check(n); e != api.OK {
		t.Errorf("it isn't closed: %d, %d", e, at)
	}
}

func TestP22_1Names(t *testing.T) {
	const want = "map/1 select/1 recurse/1 recurse/0 values/0 nulls/0 booleans/0 numbers/0 strings/0 arrays/0 objects/0 iterables/0 scalars/0 range/1 sort_by/1 group_by/1 unique_by/1 min_by/1 max_by/1 to_entries/0 from_entries/0 with_entries/1 any/1 any/0 all/1 all/0 first/1 first/0 last/1 last/0 limit/2 nth/1 nth/2 isempty/1 isvalid/1 until/2 while/2 index/1 rindex/1 in/1 inside/1 del/1 paths/0 paths/1 leaf_paths/0 pick/1 walk/1"
	if got := strings.Join(library.Names(), " "); got != want {
		t.Errorf("Names() = %s", got)
	}
	for i, l := range lines() {
		if n := parsed(t, l.text+" ."); library.Names()[i] != n.Text+"/"+strconv.Itoa(len(n.Names)) || library.Names()[i] != l.name {
			t.Errorf("%s is %s", l.text, library.Names()[i])
		}
	}
}

// The names are unlike, and none is built in; each is one that a filter can call.
func TestP22_3Names(t *testing.T) {
	met := map[string]int{}
	for _, written := range library.Names() {
		name, arity := specimen.Function(written)
		if met[written]++; met[written] > 1 || scope.Builtin(name, arity) || !word.Plain(name) {
			t.Errorf("%s", written)
		}
		free, e := scope.Free(calling(written, specimen.Part(api.Self)))
		if !slices.Equal(free, []string{written}) || e != api.OK {
			t.Errorf("scope writes %s as %q", written, free)
		}
	}
}

// What a line calls freely is what is written beside it, and no more: no variable, no label.
func TestP22_2Calls(t *testing.T) {
	for _, l := range lines() {
		if free, e := scope.Free(parsed(t, l.text+" .")); strings.Join(free, " ") != l.calls || e != api.OK {
			t.Errorf("%s calls %q", l.name, free)
		}
	}
}

// Each definition alone, and all that it needs by others written out.
func TestP22_2Alone(t *testing.T) {
	others := map[string]string{
		"recurse/0": "recurse/1", "any/0": "any/1", "all/0": "all/1", "nth/2": "last/1 limit/2",
		"values/0": "select/1", "nulls/0": "select/1", "booleans/0": "select/1", "numbers/0": "select/1", "strings/0": "select/1", "arrays/0": "select/1", "objects/0": "select/1", "iterables/0": "select/1", "scalars/0": "select/1",
		"sort_by/1": "map/1", "group_by/1": "map/1", "unique_by/1": "map/1", "min_by/1": "map/1", "max_by/1": "map/1",
		"with_entries/1": "map/1 to_entries/0 from_entries/0", "walk/1": "map/1 to_entries/0 from_entries/0 with_entries/1",
		"paths/0": "select/1 recurse/1 recurse/0", "paths/1": "select/1 recurse/1 recurse/0 paths/0", "leaf_paths/0": "select/1 recurse/1 recurse/0 scalars/0 paths/0 paths/1",
	}
	for _, l := range lines() {
		for _, argument := range []api.Node{specimen.Part(api.Self), specimen.Constant(specimen.Num("1")), calling(l.name, specimen.Part(api.Self))} {
			n := calling(l.name, argument)
			answers(t, n, inFront(t, named(t, others[l.name]+" "+l.name), n), api.OK, 0)
			checkWords(t, n)
		}
		delete(others, l.name)
	}
	if len(others) > 0 {
		t.Errorf("left are %v", others)
	}
}

// Each two definitions, in either order, and both of them twice.
func TestP22_2Two(t *testing.T) {
	self := specimen.Part(api.Self)
	for _, a := range lines() {
		for _, b := range lines() {
			one, other := calling(a.name, self), calling(b.name, self)
			both := specimen.Part(api.Pipe, one, other)
			n, _, _ := library.With(both)
			back, _, _ := library.With(specimen.Part(api.Both, other, specimen.Part(api.List, both)))
			if front(n) != front(back) {
				t.Errorf("of %s and %s there stand %s in front, the other way round %s", a.name, b.name, front(n), front(back))
			}
			checkWords(t, both)
		}
	}
}

// front are the names of the definitions in front of a filter.
func front(n api.Node) string {
	var out []string
	for n.Op == api.Def && n.At == -1 {
		out = append(out, n.Text+"/"+strconv.Itoa(len(n.Names)))
		n = n.Kids[1]
	}
	return strings.Join(out, " ")
}

func TestP22_2Rows(t *testing.T) {
	needs(t, "", ".", "1", "empty", "length | path(.) | error", "range(1; 2)", "_sort_by(.)", "error(error)", ". as $map | $map", "label $first | break $first", "{map: .map, first}", `"map(.)"`, "if . then . else . end", "setpath([]; getpath([]))")
	needs(t, "map/1", "map(.)", "map(map(.))", "map(.) | map(.), map(.)", "map(map(map(length)))", "[.[] | map(. + 1)]", "def f: map(.); f", "def f(g): map(g); 1", "def f: .; map(f)", ". as $f | map($f)", "label $f | map(break $f)")
	needs(t, "recurse/1 recurse/0", "..", "recurse", "..|..", ".. | recurse", "recurse | recurse(.)", "[..] | length", "path(..)", ".. |= .", "..?")
	needs(t, "recurse/1", "recurse(.)", "recurse(.[]?)", "recurse(recurse(.))")
	needs(t, "any/1", "any(.)", "any(. > 1)")
	needs(t, "any/1 any/0", "any | any(.)", "any(any)", "any, any")
	needs(t, "first/1 first/0", "first | first(.)", "first(first)", "first(first(first))")
	needs(t, "first/0", "first", "first.a[first]?")
	needs(t, "range/1", "range(1)", "range(1), range(1; 2)", "range(range(1; 2))", "range(range(1); 2)")
	needs(t, "nth/1", "nth(1)", "nth(1) | nth(2)")
	needs(t, "last/1 limit/2 nth/1 nth/2", "nth(1; nth(1))", "nth(nth(.); .)")
	needs(t, "map/1 select/1 limit/2", "limit(1; .) | select(.) | map(.)", "map(limit(1; select(.)))", "select(limit(1; map(.)))")
	needs(t, "map/1 select/1", "map(select(.a))", "def f: select(.); def g: map(.); f | g")
	needs(t, "map/1 sort_by/1 group_by/1", "group_by(.a) | sort_by(.b)", "group_by(sort_by(group_by(map(.))))")
	needs(t, "map/1 select/1 recurse/1 recurse/0 scalars/0 to_entries/0 from_entries/0 with_entries/1 paths/0 paths/1 leaf_paths/0 walk/1", "walk(leaf_paths)", "leaf_paths | walk(.)", "[leaf_paths, walk(.), leaf_paths, walk(..)]")
	needs(t, "select/1 values/0 nulls/0", "values, nulls", "nulls | values")
	needs(t, "map/1 to_entries/0 from_entries/0 with_entries/1", "with_entries(.)", "with_entries(.value |= . + 1)", "to_entries | with_entries(.)", "from_entries, with_entries(map(.))")
	needs(t, strings.Join(library.Names(), " "), allCalled(lines()), allCalled(reversed()))
}

func reversed() []line {
	out := lines()
	slices.Reverse(out)
	return out
}

// allCalled is a text that calls all definitions.
func allCalled(of []line) string {
	var out []string
	for _, l := range of {
		name, arity, _ := strings.Cut(l.name, "/")
		out = append(out, name+map[string]string{"0": "", "1": "(.)", "2": "(1; .)"}[arity])
	}
	return strings.Join(out, " | ")
}
