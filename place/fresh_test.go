package place_test

import (
	"strings"
	"testing"

	"hallmark/api"
	"hallmark/specimen"
)

// naming are ways in which a name stands in a filter, all of which take it.
func naming() map[string]func(name string) api.Node {
	self := specimen.Part(api.Self)
	parameter := func(names ...string) api.Node { return specimen.Definition("f", names, self, self) }
	return map[string]func(name string) api.Node{
		"a variable":              func(name string) api.Node { return specimen.NamedPart(api.Var, name) },
		"a bound variable":        func(name string) api.Node { return specimen.NamedPart(api.Bind, name, self, self) },
		"a reduce's":              func(name string) api.Node { return specimen.NamedPart(api.Reduce, name, self, self, self) },
		"a foreach's":             func(name string) api.Node { return specimen.NamedPart(api.Foreach, name, self, self, self) },
		"a definition":            func(name string) api.Node { return specimen.Definition(name, nil, self, self) },
		"one with parameters":     func(name string) api.Node { return specimen.Definition(name, []string{"g", "$h"}, self, self) },
		"a parameter":             func(name string) api.Node { return parameter(name) },
		"a parameter with a $":    func(name string) api.Node { return parameter("$" + name) },
		"one of several":          func(name string) api.Node { return parameter("g", name, "$h") },
		"one of several with a $": func(name string) api.Node { return parameter("g", "$h", "$"+name) },
		"twice, with and without": func(name string) api.Node { return parameter(name, "$"+name) },
		"a call":                  func(name string) api.Node { return specimen.NamedPart(api.Call, name) },
		"a call with arguments":   func(name string) api.Node { return specimen.NamedPart(api.Call, name, self, self) },
		"a label":                 func(name string) api.Node { return specimen.NamedPart(api.Label, name, self) },
		"a break":                 func(name string) api.Node { return specimen.NamedPart(api.Break, name) },
	}
}

// freshIn are the names that a filter's first Put binds.
func freshIn(t *testing.T, n api.Node) (string, string) {
	t.Helper()
	checkPlain(t, n)
	var at func(n api.Node) string
	at = func(n api.Node) string {
		if n.At == 4711 && n.Op == api.Bind {
			return n.Kids[1].Text + " " + n.Text
		}
		for _, kid := range n.Kids {
			if names := at(kid); names != "" {
				return names
			}
		}
		return ""
	}
	p, x, _ := strings.Cut(at(plain(t, n)), " ")
	return p, x
}

// put is a change whose place says that it is one.
func put() api.Node {
	return api.Node{Op: api.Put, At: 4711, Kids: []api.Node{specimen.Part(api.Self), specimen.Part(api.Self)}}
}

// firstOf are the first two names of which a set of numbers hasn't the length.
func firstOf(taken int) (string, string) {
	var out []string
	for long := 1; len(out) < 2; long++ {
		if taken>>long&1 == 0 {
			out = append(out, strings.Repeat("_", long))
		}
	}
	return out[0], out[1]
}

// Each set of the names up to _____, in each way in which they stand in a filter.
func TestP24_1Fresh(t *testing.T) {
	for sort, call := range naming() {
		for taken := 0; taken < 64; taken += 2 {
			n := put()
			for long := 1; long < 6; long++ {
				if taken>>long&1 == 1 {
					n = specimen.Part(api.Pipe, call(strings.Repeat("_", long)), n)
				}
			}
			wantP, wantX := firstOf(taken)
			if p, x := freshIn(t, n); p != wantP || x != wantX {
				t.Errorf("%s in %s: %s and %s, want %s and %s", sort, told(n), p, x, wantP, wantX)
			}
		}
	}
}

// Names that stand for nothing there are taken too, wherever they stand: around the change, beside it, behind it, and in it.
func TestP24_1FreshAnywhere(t *testing.T) {
	for sort, call := range naming() {
		for _, name := range []string{"_", "__", "___"} {
			n, c := call(name), put()
			wantP, wantX := firstOf(1 << len(name))
			all := []api.Node{specimen.Part(api.Both, c, n), specimen.Part(api.Both, n, c), specimen.Part(api.Both, specimen.Part(api.Try, specimen.Part(api.List, n)), c)}
			for _, kids := range [][]api.Node{{n, c.Kids[1]}, {c.Kids[0], n}, {specimen.Part(api.Update, n, n), c.Kids[0]}, {c.Kids[0], specimen.Part(api.AddTo, c.Kids[0], n)}} {
				c := put()
				c.Kids = kids
				all = append(all, c)
			}
			for at := range n.Kids {
				around := call(name)
				around.Kids = append([]api.Node(nil), n.Kids...)
				around.Kids[at] = c
				all = append(all, around)
			}
			for _, around := range specimen.AroundFilter(n) {
				all = append(all, specimen.Part(api.Pipe, c, around))
			}
			for _, n := range all {
				if p, x := freshIn(t, n); p != wantP || x != wantX {
					t.Errorf("%s in %.500s: %s and %s, want %s and %s", sort, told(n), p, x, wantP, wantX)
				}
			}
		}
	}
}

// What takes no name: other names, and the values of constants, fields among them.
func TestP24_1FreshOthers(t *testing.T) {
	for _, s := range []string{"a_", "_a", "$_a", "$a__", "_1", "f(__a)", "def f($_x; a_): .; .", "label $__a | .", "reduce . as $_x (.; .)", `"_"`, "._", "._.__", `."_"`, `.["_", "__"]`, "{_: 1}", "{_, __: 2}", `{"_": 1}`, `"_\(.)__"`, `"$_"`, "def _a: .; _a"} {
		n := specimen.Part(api.Pipe, read(t, s), put())
		if p, x := freshIn(t, n); p != "_" || x != "__" {
			t.Errorf("%s: %s and %s", s, p, x)
		}
	}
	for s, want := range map[string]string{
		"{$_}":                       "__ ___",
		"{$__: $_}":                  "__ ___",
		"._ as $__ | .":              "_ ___",
		"def _: ._; _":               "__ ___",
		"def f($_; __): ___; f(1)":   "____ _____",
		"label $___ | ., break $_":   "__ ____",
		"$__, $____, $______":        "_ ___",
		"$_, $___, $_____":           "__ ____",
		"$_, $__, $____":             "___ _____",
		"def __($__): def _: .; .;.": "___ ____",
	} {
		n := specimen.Part(api.Pipe, read(t, s), put())
		if p, x := freshIn(t, n); p+" "+x != want {
			t.Errorf("%s: %s and %s, want %s", s, p, x, want)
		}
	}
}

// All changes of a filter bind the same names, and what they bind hides nothing that b or a asks for.
func TestP24_1FreshBinds(t *testing.T) {
	checkLines(t, []line{
		{". as $_ | . as $__ | .a = [$_, $__]", "{}", `{"a":[{},{}]}`, "", 0},
		{"1 as $_ | 2 as $__ | (.a, .b) |= [., $_, $__]", `{"a":0}`, `{"a":[0,1,2],"b":[null,1,2]}`, "", 0},
		{`"a" as $_ | "b" as $__ | .[$_][$__] += 1`, "null", `{"a":{"b":1}}`, "", 0},
		{"def _: 1; def __: 2; .a = _ + __", "null", `{"a":3}`, "", 0},
		{"def f($_; __): .a |= [$_, _, __]; f(1; 2)", "null", `{"a":[1,1,2]}`, "", 0},
		{`def f(_; $__): .[_] += $__; f("a", "b"; 2)`, "null", `{"a":2,"b":2}`, "", 0},
		{"3 as $_ | .a += (4 as $__ | .b = $_ + $__ | .b)", "{}", `{"a":7}`, "", 0},
		{"label $_ | .a |= (1, break $_)", "{}", "", "", 0},
		{"._ = 1 | .__ |= 2", "{}", `{"_":1,"__":2}`, "", 0},
	})
}
