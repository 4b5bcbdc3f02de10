package library_test

import (
	"strings"
	"testing"

	"hallmark/api"
	"hallmark/library"
	"hallmark/scope"
	"hallmark/specimen"
	"hallmark/syntax"
)

// Definitions part by part, as they stand in front: all that has no place behind an @ has the place -1.
func TestP22_2Forms(t *testing.T) {
	for s, want := range map[string]string{
		"map(.a)":      `def.map<f>(list(pipe(each(self) call.f)) call.map@0(index@4(self@4 "a"@4)))`,
		"select(1)":    `def.select<f>(if(call.f self call.empty) call.select@0(1@7))`,
		"..":           `def.recurse<f>(def.r(both(self pipe(call.f call.r)) call.r) def.recurse(call.recurse(try(each(self))) call.recurse@0))`,
		"  range(7)":   `def.range<$n>(call.range(0 var.n) call.range@2(7@8))`,
		"values":       `def.select<f>(if(call.f self call.empty) def.values(call.select(ne(self null)) call.values@0))`,
		"first":        `def.first(index(self 0) call.first@0)`,
		"last":         `def.last(index(self neg(1)) call.last@0)`,
		"last(.)":      `def.last<f>(reduce.x(call.f null var.x) call.last@0(self@5))`,
		"isvalid(.)":   `def.isvalid<f>(try(pipe(call.f true) false) call.isvalid@0(self@8))`,
		"isempty(.)":   `def.isempty<f>(label.out(both(pipe(call.f both(false break.out)) true)) call.isempty@0(self@8))`,
		"to_entries":   `def.to_entries(list(bind.k(each(call.keys) record("key" var.k "value" index(self var.k)))) call.to_entries@0)`,
		"from_entries": `def.from_entries(reduce.e(each(self) record add(self record(pipe(var.e index(self "key")) index(var.e "value")))) call.from_entries@0)`,
		"limit(1; 2)":  `def.limit<$n f>(if(gt(var.n 0) label.out(foreach.x(call.f 0 add(self 1) both(var.x if(ge(self var.n) break.out call.empty)))) call.empty) call.limit@0(1@6 2@9))`,
		"while(1; 2)":  `def.while<c u>(def.r(if(call.c both(self pipe(call.u call.r)) call.empty) call.r) call.while@0(1@6 2@9))`,
		"in({})":       `def.in<x>(bind.k(self pipe(call.x call.has(var.k))) call.in@0(record@3))`,
		"all":          `def.all<f>(reduce.x(each(self) true and(self pipe(var.x call.f))) def.all(call.all(self) call.all@0))`,
		"1|pick(.a)":   `def.pick<f>(bind.v(self reduce.p(call.path(call.f) null call.setpath(var.p pipe(var.v call.getpath(var.p))))) pipe@1(1@0 call.pick@2(index@7(self@7 "a"@7))))`,
		"scalars":      `def.select<f>(if(call.f self call.empty) def.scalars(call.select(and(ne(call.type "array") ne(call.type "object"))) call.scalars@0))`,
		"nth(1; 2)":    `def.last<f>(reduce.x(call.f null var.x) def.limit<$n f>(if(gt(var.n 0) label.out(foreach.x(call.f 0 add(self 1) both(var.x if(ge(self var.n) break.out call.empty)))) call.empty) def.nth<$n f>(call.last(call.limit(add(var.n 1) call.f)) call.nth@0(1@4 2@7))))`,
	} {
		got, e, at := library.With(parsed(t, s))
		if placeless := strings.ReplaceAll(told(got), "@-1", ""); placeless != want || e != api.OK || at != 0 {
			t.Errorf("With(%s) = %s, %d, %d, want %s", s, placeless, e, at, want)
		}
	}
}

// The places of the filter stay as they are, whatever they are, and whatever they are in the definitions' text.
func TestP22_2FiltersPlaces(t *testing.T) {
	for _, l := range lines() {
		for _, at := range []int{-1, -2, 0, 1, 2119, -1 << 62, 1 << 62} {
			n := calling(l.name, specimen.Part(api.Self))
			n = specimen.Part(api.Pipe, specimen.PlacedFilter(n, at), specimen.PlacedFilter(specimen.Part(api.Slice, n, api.Node{}, n), at-1))
			n.At = at + 1
			checkWords(t, n)
			out, _, _ := library.With(n)
			if rest := behind(t, out, l); !specimen.EqualFilters(rest, n) {
				t.Errorf("behind the definitions stands %s, want %s", told(rest), told(n))
			}
		}
	}
}

// behind is what stands behind the last of the definitions in front, which is this line's, and holds those in front to their form.
func behind(t *testing.T, n api.Node, last line) api.Node {
	t.Helper()
	for range lines() {
		if n.Op != api.Def || len(n.Kids) != 2 || n.At != -1 || n.Value.Kind != api.Null {
			t.Fatalf("it is %s", told(n))
		}
		notPlaced(t, n.Kids[0])
		name, arity := specimen.Function(last.name)
		if n.Text == name && len(n.Names) == arity {
			return n.Kids[1]
		}
		n = n.Kids[1]
	}
	t.Fatalf("%s isn't there", last.name)
	return api.Node{}
}

// notPlaced holds all parts of a definition's body to the place -1.
func notPlaced(t *testing.T, n api.Node) {
	t.Helper()
	if n.At != -1 {
		t.Errorf("%s has a place", told(n))
	}
	for _, kid := range n.Kids {
		notPlaced(t, kid)
	}
}

// What is answered is a well shaped filter, and nothing else of it is set than what the chapter says.
func TestP22_2WellShaped(t *testing.T) {
	for _, l := range lines() {
		n := calling(l.name, specimen.Part(api.Self))
		out, e, at := library.With(n)
		if free, _ := scope.Free(out); !syntax.Formed(out) || len(free) > 0 || e != api.OK || at != 0 {
			t.Errorf("With(%s) = %s, %d, %d", told(n), told(out), e, at)
		}
	}
}
