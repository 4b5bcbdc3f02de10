package place_test

import (
	"math"
	"slices"
	"strings"
	"testing"

	"hallmark/api"
	"hallmark/eval"
	"hallmark/place"
	"hallmark/scope"
	"hallmark/specimen"
	"hallmark/syntax"
)

// placed is a filter with another place for each part, from this one on.
func placed(n api.Node, at int) api.Node {
	next := at
	var of func(n api.Node) api.Node
	of = func(n api.Node) api.Node {
		n.At = next
		next++
		n.Kids = slices.Clone(n.Kids)
		for i, kid := range n.Kids {
			n.Kids[i] = of(kid)
		}
		return n
	}
	return of(n)
}

func TestP24_1Misshapen(t *testing.T) {
	for i, n := range specimen.MisshapenFilters() {
		checkPlain(t, n)
		if syntax.Formed(n) {
			t.Errorf("%.300s is well shaped", told(n))
		}
		if n.Op == api.None {
			n.Text = "f" // a None may stand in a Slice
		}
		for k, around := range specimen.AroundFilter(n) {
			if (i+k)%7 == 0 {
				checkPlain(t, around)
			}
		}
		for _, op := range changes() {
			self := specimen.Part(api.Self)
			checkPlain(t, specimen.Part(op, n, self))
			checkPlain(t, specimen.Part(op, self, n))
		}
	}
}

// Changes that aren't well shaped themselves.
func TestP24_1MisshapenChanges(t *testing.T) {
	self := specimen.Part(api.Self)
	for name, op := range changes() {
		wrong := []api.Node{{Op: op}, specimen.Part(op, self), specimen.Part(op, self, self, self), specimen.Part(op, api.Node{}, self), specimen.Part(op, self, api.Node{}), specimen.NamedPart(op, "f", self, self), specimen.NamedPart(op, "_", self, self)}
		for _, n := range []api.Node{{Names: []string{"g"}}, {Value: specimen.Num("1")}, {Value: specimen.Kind(api.True)}, {Value: api.Value{Items: []api.Value{{}}}}} {
			n.Op, n.Kids = op, []api.Node{self, self}
			wrong = append(wrong, n)
		}
		for _, n := range wrong {
			for _, n := range []api.Node{n, specimen.Part(api.Neg, n), specimen.Part(api.Update, self, n), specimen.Definition("f", nil, self, n)} {
				out, e := place.Plain(n)
				if e != api.ErrShape || !specimen.EqualFilters(out, api.Node{}) {
					t.Errorf("%s: Plain(%s) = %s, %d", name, told(n), told(out), e)
				}
			}
		}
	}
}

// Filters without changes are answered as they are, their places too.
func TestP24_1Unchanged(t *testing.T) {
	pick := pickOf(2411)
	all := specimen.FilterForms()
	for range 500 {
		all = append(all, specimen.ClosedFilter(pick, 6))
	}
	for _, n := range all {
		if !eval.Plain(n) {
			continue
		}
		for _, at := range []int{0, 1, -1, 1 << 40, math.MaxInt - 1000, math.MinInt} {
			n = placed(n, at)
			if out := plain(t, n); !specimen.EqualFilters(out, n) {
				t.Errorf("Plain(%.500s) = %.500s", told(n), told(out))
			}
			checkPlain(t, n)
		}
	}
}

// Each change part by part, with places: the new parts have the change's, 7, and the others their own.
func TestP24_1Forms(t *testing.T) {
	const there = `pipe@7(call.getpath@7(var._@7)`
	update := func(b string) string {
		return `reduce._@7(call.path@7(index@1(self@1 "a"@2)) self@7 call.setpath@7(var._@7 reduce.__@7(` + b + `) null@7 var.__@7)))`
	}
	bound := func(body string) string { return `bind.__@7(neg@10(3@11) ` + body + `)` }
	with := func(op string) string { return bound(update(there + ` ` + op + `@7(self@7 var.__@7)`)) }
	for op, want := range map[string]string{
		"|=":  update(there + ` neg@10(3@11)`),
		"=":   bound(`reduce._@7(call.path@7(index@1(self@1 "a"@2)) self@7 call.setpath@7(var._@7 var.__@7))`),
		"+=":  with("add"),
		"-=":  with("sub"),
		"*=":  with("mul"),
		"/=":  with("div"),
		"%=":  with("mod"),
		"//=": with("else"),
	} {
		n := read(t, " .a    "+op+strings.Repeat(" ", 3-len(op))+"-3")
		n.Kids[0].Kids[1].At = 2
		if n.Op != changes()[op] || n.At != 7 {
			t.Errorf("the filter is %s", told(n))
		}
		if got := told(plain(t, n)); got != want {
			t.Errorf("a %s b: %s, want %s", op, got, want)
		}
		checkPlain(t, n)
	}
}

// The parts of a change have other places than it, and so have those around it.
func TestP24_1Places(t *testing.T) {
	a, b := specimen.Part(api.Each, specimen.Part(api.Self)), specimen.NamedPart(api.Call, "f", specimen.Constant(specimen.Num("1")))
	for _, op := range changes() {
		for _, other := range changes() {
			for _, at := range []int{0, 1, -1, -100, math.MaxInt - 1000, math.MinInt} {
				n := specimen.Part(api.Pipe, specimen.Part(op, a, specimen.Part(other, b, a)), specimen.Part(other, specimen.Part(op, a, b), b))
				checkPlain(t, placed(n, at))
				checkPlain(t, specimen.PlacedFilter(n, at))
			}
		}
	}
}

// Each change within each kind of part, and within the kids of each other one.
func TestP24_1Within(t *testing.T) {
	a, b := specimen.Part(api.Self), specimen.Constant(specimen.Num("2"))
	for _, op := range changes() {
		n := specimen.Part(op, a, b)
		for _, around := range specimen.AroundFilter(n) {
			if eval.Plain(around) {
				t.Errorf("no change is in %.300s", told(around))
			}
			checkPlain(t, placed(around, 5))
		}
		for _, other := range changes() {
			within := []api.Node{specimen.Part(other, n, b), specimen.Part(other, a, n), specimen.Part(other, n, n)}
			for _, n := range within {
				checkPlain(t, placed(n, 3))
				for _, n := range within {
					checkPlain(t, placed(specimen.Part(op, n, n), 3))
				}
			}
		}
	}
}

// From within outwards, as texts.
func TestP24_1WithinTexts(t *testing.T) {
	checkTexts(t, map[string]string{
		".a |= (.b |= 3)":                      "reduce path(.a) as $_ (.; setpath($_; reduce (getpath($_) | reduce path(.b) as $_ (.; setpath($_; reduce (getpath($_) | 3) as $__ (null; $__)))) as $__ (null; $__)))",
		".a = (.b = 3)":                        "(3 as $__ | reduce path(.b) as $_ (.; setpath($_; $__))) as $__ | reduce path(.a) as $_ (.; setpath($_; $__))",
		"(.a = 1) |= 2":                        "reduce path(1 as $__ | reduce path(.a) as $_ (.; setpath($_; $__))) as $_ (.; setpath($_; reduce (getpath($_) | 2) as $__ (null; $__)))",
		".a += (.b //= 3)":                     "(3 as $__ | reduce path(.b) as $_ (.; setpath($_; reduce (getpath($_) | . // $__) as $__ (null; $__)))) as $__ | reduce path(.a) as $_ (.; setpath($_; reduce (getpath($_) | . + $__) as $__ (null; $__)))",
		"[.a = 1]":                             "[1 as $__ | reduce path(.a) as $_ (.; setpath($_; $__))]",
		"def f: .a = 1; f":                     "def f: 1 as $__ | reduce path(.a) as $_ (.; setpath($_; $__)); f",
		`"x\(.a = 1)"`:                         `"x\(1 as $__ | reduce path(.a) as $_ (.; setpath($_; $__)))"`,
		".a = 1, .b":                           "(1 as $__ | reduce path(.a) as $_ (.; setpath($_; $__))), .b",
		"if .a = 1 then . else . end":          "if 1 as $__ | reduce path(.a) as $_ (.; setpath($_; $__)) then . else . end",
		"first(.a = 1; .)":                     "first(1 as $__ | reduce path(.a) as $_ (.; setpath($_; $__)); .)",
		"label $l | .a |= break $l":            "label $l | reduce path(.a) as $_ (.; setpath($_; reduce (getpath($_) | break $l) as $__ (null; $__)))",
		"reduce .[] as $x (.; .a *= $x)":       "reduce .[] as $x (.; $x as $__ | reduce path(.a) as $_ (.; setpath($_; reduce (getpath($_) | . * $__) as $__ (null; $__))))",
		"def f($_; __): .a %= $_; f(1; . = 2)": "def f($_; __): $_ as $____ | reduce path(.a) as $___ (.; setpath($___; reduce (getpath($___) | . % $____) as $____ (null; $____))); f(1; 2 as $____ | reduce path(.) as $___ (.; setpath($___; $____)))",
	})
}

// Filters that aren't closed are rewritten all the same.
func TestP24_1Open(t *testing.T) {
	checkTexts(t, map[string]string{
		"f |= g(1)":              "reduce path(f) as $_ (.; setpath($_; reduce (getpath($_) | g(1)) as $__ (null; $__)))",
		"$p = $x":                "$x as $__ | reduce path($p) as $_ (.; setpath($_; $__))",
		"break $l -= 1":          "1 as $__ | reduce path(break $l) as $_ (.; setpath($_; reduce (getpath($_) | . - $__) as $__ (null; $__)))",
		"def path(f): f; . /= 1": "def path(f): f; 1 as $__ | reduce path(.) as $_ (.; setpath($_; reduce (getpath($_) | . / $__) as $__ (null; $__)))",
		"$_ = $___":              "$___ as $____ | reduce path($_) as $__ (.; setpath($__; $____))",
	})
	for _, n := range specimen.OpenFilters() {
		for _, op := range changes() {
			checkPlain(t, specimen.Part(op, n, specimen.Part(api.Self)))
			checkPlain(t, specimen.Part(api.Neg, specimen.Part(op, specimen.Part(api.Self), n)))
		}
	}
	pick := pickOf(2412)
	seen := map[[2]bool]int{}
	for i := range 3000 {
		n := specimen.DrawnFilter(pick, 1+i%6)
		checkPlain(t, n)
		checkPlain(t, specimen.SpoiltFilter(n, pick))
		e, _ := scope.Check(n)
		seen[[2]bool{e == api.OK, eval.Plain(n)}]++
	}
	if seen[[2]bool{false, false}] < 500 || seen[[2]bool{false, true}] < 500 {
		t.Errorf("seen: %v", seen)
	}
}
