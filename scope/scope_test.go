package scope_test

import (
	"fmt"
	"math"
	"math/rand"
	"slices"
	"strconv"
	"strings"
	"testing"

	"hallmark/api"
	"hallmark/scope"
	"hallmark/specimen"
	"hallmark/syntax"
)

func pickOf(seed int64) specimen.Source { return rand.New(rand.NewSource(seed)).Intn }

func parsed(t *testing.T, s string) api.Node {
	t.Helper()
	n, e, at := syntax.Parse(s)
	if e != api.OK {
		t.Fatalf("Parse(%.300q): %d at %d", s, e, at)
	}
	return n
}

// closed holds Check of texts to OK, and Free to no name.
func closed(t *testing.T, texts ...string) {
	t.Helper()
	for _, s := range texts {
		checks(t, parsed(t, s), api.OK, 0)
		frees(t, parsed(t, s))
	}
}

// fails holds Check of texts to an error, at the place of the first @ in each, which is no part of it.
func fails(t *testing.T, e api.Errno, texts ...string) {
	t.Helper()
	for _, s := range texts {
		ahead, behind, _ := strings.Cut(s, "@")
		checks(t, parsed(t, ahead+behind), e, len(ahead))
	}
}

func TestExamples(t *testing.T) {
	closed(t, ".a | length", ". as $x | $x", "def f(g): g | f(.); f(.a)", "label $l | break $l", "def f($n): $n + n; f(1)")
	for _, row := range []struct {
		s  string
		e  api.Errno
		at int
	}{
		{"$x", api.ErrName, 0}, {"1 | foo", api.ErrName, 4}, {"length(1)", api.ErrName, 0}, {"break $l", api.ErrLabel, 0}, {"(. as $x | .) | $x", api.ErrName, 16}, {"$x as $x | 1", api.ErrName, 0},
		{"reduce .[] as $x ($x; .)", api.ErrName, 18}, {"foreach .[] as $x (0; $x; $x)", api.OK, 0}, {"def f: g; def g: 1; f", api.ErrName, 7}, {"def length: 1; length", api.OK, 0}, {"def path(f): 1; 2", api.ErrTaken, 0}, {"def path: 1; path", api.OK, 0},
	} {
		checks(t, parsed(t, row.s), row.e, row.at)
	}
	frees(t, parsed(t, "map(.a) | $x | f(1; 2) | break $o"), "$x", "*o", "f/2", "map/1")
	frees(t, parsed(t, "def map(f): f; map(.)"))
	frees(t, parsed(t, "length"))
	for _, row := range []struct {
		name  string
		arity int
		want  bool
	}{{"path", 1, true}, {"error", 0, true}, {"path", 0, false}, {"map", 1, false}, {"length", -1, false}, {"", 0, false}} {
		builtinIs(t, row.name, row.arity, row.want)
	}
	if api.ErrName != 190 || api.ErrLabel != 191 || api.ErrTaken != 192 {
		t.Errorf("the errors are %d, %d, %d", api.ErrName, api.ErrLabel, api.ErrTaken)
	}
}

func builtinIs(t *testing.T, name string, arity int, want bool) {
	t.Helper()
	if got := scope.Builtin(name, arity); got != want {
		t.Errorf("Builtin(%.300q, %d) = %v", name, arity, got)
	}
}

// calling is a Call with so many arguments.
func calling(name string, arity int) api.Node {
	return specimen.NamedPart(api.Call, name, slices.Repeat([]api.Node{specimen.Part(api.Self)}, arity)...)
}

// Each function that is built in, with every number of arguments near its own.
func TestP19_3Each(t *testing.T) {
	all := builtins()
	if len(all) != 45 {
		t.Errorf("the list has %d", len(all))
	}
	for _, written := range all {
		name, own := specimen.Function(written)
		for arity := own - 3; arity <= own+12; arity++ {
			want := listed(name, arity)
			builtinIs(t, name, arity, want)
			if arity < 0 {
				continue
			}
			n := calling(name, arity)
			n.At = 33
			if want {
				checks(t, n, api.OK, 0)
				frees(t, n)
			} else {
				checks(t, n, api.ErrName, 33)
				frees(t, n, fmt.Sprintf("%s/%d", name, arity))
			}
		}
		checks(t, specimen.NamedPart(api.Var, name), api.ErrName, 0)
		frees(t, specimen.NamedPart(api.Var, name), "$"+name)
		checks(t, specimen.NamedPart(api.Break, name), api.ErrLabel, 0)
		frees(t, specimen.NamedPart(api.Break, name), "*"+name)
	}
}

func TestP19_3Numbers(t *testing.T) {
	for _, written := range builtins() {
		name, own := specimen.Function(written)
		for _, arity := range []int{-own, -own - 1, ^own, own + 1<<8, own + 1<<16, own + 1<<31, own + 1<<32, own - 1<<32, own + 1<<62, own - 1<<62, own + math.MinInt, math.MaxInt, math.MaxInt - own, 10 + own, 10 * (own + 1), 48 + own} {
			builtinIs(t, name, arity, listed(name, arity))
		}
	}
}

// Texts that are no name of a function that is built in, many of them near one.
func TestP19_3Texts(t *testing.T) {
	texts := []string{"", " ", "/", "0", "/0", "$", "*", "_", ".", "if", "def", "null", "map", "select", "recurse", "limit", "first", "last", "any", "all", "foo", "sort_by", "group_by", "unique_by", "min_by", "max_by", "del", "to_entries", "values", "floor", "test", "input", "\xff", "\x00", "é", "empty error", "length utf8bytelength", "error/0 error", builtinWords, "utf8byte", "trimstr", "by", "_by", "ascii", "paths", strings.Repeat("length", 10000)}
	for _, written := range builtins() {
		name, _ := specimen.Function(written)
		texts = append(texts, written, name+" ", " "+name, name+"/", "$"+name, "*"+name, name+"\x00", name+"0", name+"s", "_"+name, "__"+name, strings.ToUpper(name), name[1:], name[:len(name)-1], strings.ToUpper(name[:1])+name[1:], name+name, name+"\xff", "\n"+name, name+"é")
	}
	for _, s := range texts {
		for arity := -2; arity <= 12; arity++ {
			builtinIs(t, s, arity, listed(s, arity))
		}
	}
}

// place is where a part may stand in a text, in the place of the @, and which names it sees there.
type place struct {
	text string
	sees string
}

// binding are the kids of all Ops that bind, and what their parts have besides.
func binding() []place {
	return []place{
		{"def f: @; .", "f/0"}, {"def f: .; @", "f/0"}, {"def f(g): @; .", "f/1 g/0"}, {"def f(g): .; @", "f/1"}, {"def f($g): @; .", "f/1 g/0 $g"}, {"def f($g): .; @", "f/1"},
		{"def f(f): @; .", "f/1 f/0"}, {"def f(f): .; @", "f/1"}, {"def g(f; $g): @; .", "g/2 f/0 g/0 $g"}, {"def g(f; $g): .; @", "g/2"}, {"def g($f; g; $x): @; .", "g/3 f/0 $f g/0 x/0 $x"}, {"def f(g; $g): @; .", "f/2 g/0 $g"}, {"def f($g; g): @; .", "f/2 g/0 $g"}, {"def f(g; g): @; .", "f/2 g/0"}, {"def f(g; g): .; @", "f/2"},
		{"@ as $f | .", ""}, {". as $f | @", "$f"},
		{"reduce @ as $f (.; .)", ""}, {"reduce . as $f (@; .)", ""}, {"reduce . as $f (.; @)", "$f"},
		{"foreach @ as $f (.; .)", ""}, {"foreach . as $f (@; .)", ""}, {"foreach . as $f (.; @)", "$f"},
		{"foreach @ as $f (.; .; .)", ""}, {"foreach . as $f (@; .; .)", ""}, {"foreach . as $f (.; @; .)", "$f"}, {"foreach . as $f (.; .; @)", "$f"},
		{"label $f | @", "*f"},
	}
}

// plain are the kids of all other Ops.
func plain() []place {
	texts := []string{"@", `"p\(@)q"`, `"\(.)\(@)\(.)"`, "[@]", "{(@): .}", "{a: @}", "{a: ., (@): ., b: .}", "{a: ., b: @, c: .}", `{"\(@)": .}`, "@.a", "@[0]", ".[@]", "@[1:2]", ".[@:2]", ".[1:@]", ".[@:]", ".[:@]", "@[1:]", "@[:1]", "@[]", "@?", "try @ catch .", "try . catch @", "-@", "if @ then . else . end", "if . then @ else . end", "if . then . else @ end", "error(@)", "range(@; .)", "range(.; @)"}
	for _, sign := range strings.Fields("| , + - * / % == != < <= > >= and or // = |= += -= *= /= %= //=") {
		texts = append(texts, "@ "+sign+" .", ". "+sign+" @")
	}
	var out []place
	for _, s := range texts {
		out = append(out, place{s, ""})
	}
	return out
}

// hole is where the part of a place stands in its text.
func hole(s string) int { return strings.Index(s, "@") }

// put is a place within another one, which sees what both see.
func put(inner, outer place) place {
	at := hole(outer.text)
	return place{outer.text[:at] + "(" + inner.text + ")" + outer.text[at+1:], outer.sees + " " + inner.sees}
}

// asking are texts of parts that ask for a name, and how it is written.
func asking() map[string]string {
	out := map[string]string{}
	for _, name := range strings.Fields("f g x") {
		out[name], out[name+"(.)"], out[name+"(.; .)"], out[name+"(.; .; .)"], out["$"+name], out["break $"+name] = name+"/0", name+"/1", name+"/2", name+"/3", "$"+name, "*"+name
	}
	return out
}

// asksIn holds Check and Free of a place with a part in it that asks for a name.
func asksIn(t *testing.T, p place, part, name string) {
	t.Helper()
	at := hole(p.text)
	n := parsed(t, p.text[:at]+part+p.text[at+1:])
	switch {
	case slices.Contains(strings.Fields(p.sees), name) || slices.Contains(builtins(), name):
		checks(t, n, api.OK, 0)
		frees(t, n)
	case name[0] == '*':
		checks(t, n, api.ErrLabel, at)
		frees(t, n, name)
	default:
		checks(t, n, api.ErrName, at)
		frees(t, n, name)
	}
}

// A part that asks for a name as each kid of each Op, and as each kid of each Op that binds inside and around all others.
func TestP19_1Places(t *testing.T) {
	all := slices.Concat(binding(), plain())
	places := slices.Clone(all)
	for _, b := range binding() {
		for _, p := range all {
			places = append(places, put(p, b))
			if !slices.Contains(binding(), p) {
				places = append(places, put(b, p))
			}
		}
	}
	for _, p := range places {
		for part, name := range asking() {
			asksIn(t, p, part, name)
		}
		for part, name := range map[string]string{"length": "length/0", "error": "error/0", "error(.)": "error/1", "path(.)": "path/1", "setpath(.; .)": "setpath/2", "length(.)": "length/1", "$length": "$length", "break $error": "*error", "path": "path/0"} {
			asksIn(t, p, part, name)
		}
	}
}

// What is seen in a part isn't any more behind it, nor ahead of it.
func TestP19_1Behind(t *testing.T) {
	for _, b := range binding() {
		whole := strings.Replace(b.text, "@", ".", 1)
		for part, name := range asking() {
			for _, around := range []place{{"(" + whole + ") | @", ""}, {"@ | (" + whole + ")", ""}, {"[" + whole + "], @", ""}, {"reduce (" + whole + ") as $y (@; .)", ""}} {
				asksIn(t, around, part, name)
			}
		}
	}
	fails(t, api.ErrName, "(. as $x | $x) | @$x", "(def f: .; f) | @f", "[(def f: .; f), @f]", "{a: (. as $x | $x), b: @$x}", "reduce (. as $x | .) as $y (@$x; .)", "foreach . as $x ((. as $y | .); @$y; .)", "foreach . as $x (.; (. as $y | $y); @$y)", "def f: def g: .; g; f | @g", "def f(g): g; @g", "def f($g): g; @g", "def f($g): g; @$g", "def f(g; h): .; @h", "if (. as $x | $x) then @$x else . end", "(. as $x | .) as $y | @$x", "error(. as $x | $x) | @$x", "range(. as $x | $x; @$x)")
	fails(t, api.ErrLabel, "(label $x | break $x) | @break $x", "[label $x | break $x], @break $x", "range(label $x | break $x; @break $x)", "reduce (label $x | break $x) as $x (.; @break $x)")
	closed(t, ". as $x | (. as $x | $x) | $x", "def f: .; (def f: 1; f) | f", "label $x | (label $x | break $x) | break $x", "def f(g): (def g: .; g) | g; f(.)", ". as $x | (def f($x): $x; f(.)) | $x", ". as $x | reduce $x as $x ($x; $x) | $x", ". as $x | foreach $x as $x ($x; $x; $x) | $x")
}

func TestP19_1Sorts(t *testing.T) {
	fails(t, api.ErrName, "def x: .; @$x", "label $x | @$x", "label $x | @x", ". as $x | @x", "def f(x): @$x; f(.)", "reduce . as $x (.; @x)", "foreach . as $x (.; .; @x)", ". as $length | @$error")
	fails(t, api.ErrLabel, ". as $x | @break $x", "def x: .; @break $x", "def f($x): @break $x; .", "def f(x): @break $x; .", "reduce . as $x (.; @break $x)", "foreach . as $x (.; @break $x; .)")
	closed(t, ". as $x | label $x | def x: .; def x(x): x; [$x, x, x(.), break $x]", "label $x | . as $x | $x, break $x", "def f($x): label $x | def x(y): .; [$x, x, x(.), break $x]; f(.)", ". as $length | label $length | [length, $length, break $length]")
}

func TestP19_1Arities(t *testing.T) {
	fails(t, api.ErrName, "def f: .; @f(.)", "def f(a): .; @f", "def f(a): .; @f(.; .)", "def f(a; b): .; @f(.)", "def f(a; b): .; f(.; @f(.))", "def f(a): @a(.); f(.)", "def f($a): @a(.); f(.)", "def f: @f(.); f", "def length(f): .; @length(.; .)")
	closed(t, "def f: 0; def f(a): 1; def f(a; b): 2; def f(a; b; c): 3; [f, f(.), f(.; .), f(.; .; .)]", "def f(a): a; def f: f(.); f", "def f(a; b): a | b; f(f(.; .); f(.; .))", "def f(f): f; f(f(.))", "def length(a): length; length(length)")
	for _, many := range []int{9, 10, 11, 99, 100, 101, 1000} {
		names := slices.Repeat([]string{"a"}, many)
		for _, off := range []int{-1, 0, 1} {
			n := calling("f", many+off)
			n.At = 5
			if n = specimen.Definition("f", names, specimen.Part(api.Self), n); off == 0 {
				checks(t, n, api.OK, 0)
				frees(t, n)
			} else {
				checks(t, n, api.ErrName, 5)
				frees(t, n, "f/"+strconv.Itoa(many+off))
			}
		}
	}
}

func TestP19_1Definitions(t *testing.T) {
	closed(t,
		"def f: f; f", "def f(a): f(f(a)); f(.)", "def f($a): f($a + 1); f(1)", "def f: def g: f | g; g; f",
		"def f: .; def g: f; g", "def f: .; def f: f; f", "def f: 1; def g: 2; def f: g; def g: f; g",
		"def f: def f: 1; f; f", "def f(f): f; f(1)", "def f: .; def g(f): f; g(f)", "def f: .; def g($f): f, $f; g(f)",
		"def length: length; length", "def not: 1; def keys: not; keys", "def error(f): error; error(1)", "def empty: error(empty); empty",
		"def f(path): path; f(.)", "def f($path): path | path(.) | $path; f(.)", "def f(getpath; $setpath): getpath, setpath, $setpath; f(.; .)", "def f(length): length; f(.)", "def f($add): add, $add; f(.)",
		"def f(a; a): a; f(.; .)", "def f($a; $a): a, $a; f(.; .)", "def f(a; $a): a, $a; f(.; .)", "def f($a; a): a, $a; f(.; .)", "def f($a; b; $c): a, $a, b, c, $c; f(.; .; .)",
		"def f: .; f as $x | $x", "def f($x): . as $y | $x, $y, x; f(.)", ". as $x | def f: $x; f", "label $x | def f: break $x; f", "def f(a): . as $x | a; . as $x | f($x)",
		"def a: 1; def b: a; def c: b; c")
	fails(t, api.ErrName,
		"def f: @g; def g: f; f", "def f: @g(f); def g(a): f; f", "def f: def g: @h; g; def h: 1; f", "def f: .; def g: @h; def h: f; g",
		"def f(a): @b; f(.)", "def f(a): @$a; f(.)", "def f(a): .; f(@a)", "def f($a): .; f(@$a)", "def f($a): .; f(@a)", "def f(a; $b): a, b, $b, @$a; .", "def f($a): def g: @b; g; f(.)", "def f: (def g: .; .) | @g; f", "def f(a): a | @b; f(.)", "@f | def f: .; f", "def f: . as $x | .; @$x")
	fails(t, api.ErrLabel, "def f: @break $x; label $x | f", "def f: label $x | .; f | @break $x", "def f($x): @break $x; label $x | f(.)")
}

// A Def of what changes are made of, wherever it stands; and Defs of these names with other numbers of parameters.
func TestP19_1Taken(t *testing.T) {
	fails(t, api.ErrTaken,
		"@def path(f): .; .", "@def path($f): .; .", "@def getpath(f): .; .", "@def getpath($p): .; .", "@def setpath(a; b): .; .", "@def setpath($a; $b): .; .", "@def setpath(a; a): .; .", "@def path(path): path; .",
		"1 | @def path(f): f; path(.)", "def f: @def getpath(g): .; .; f", "def f: .; @def setpath(a; b): .; f", "def path: .; @def path(f): .; .", "[@def path(f): .; .]", ". as $x | @def getpath($x): .; .", "label $l | @def setpath(a; b): break $l; .", "reduce . as $x (.; @def path(f): .; .)", "def f(path): @def path(f): .; .; .")
	closed(t,
		"def path: path(.); path", "def path(a; b): path(a); path(.; .)", "def path(a; b; c): .; path(.; .; .)", "def getpath: getpath([]); getpath", "def getpath(a; $b): .; getpath(.; .)", "def getpath(a; b; c): .; .", "def setpath: .; setpath", "def setpath(a): setpath([]; a); setpath(.)", "def setpath(a; b; c): .; setpath(.; .; .)", "def delpaths(a): .; delpaths(.)", "def paths(f): .; paths(.)", "def Path(f): .; .", "def path_(f): .; .", "def f(path; getpath; setpath): path, getpath, setpath; .", ". as $path | label $getpath | $path, break $getpath")
	for _, name := range []string{"path", "getpath", "setpath"} {
		for many := range 8 {
			n := specimen.Definition(name, slices.Repeat([]string{"a"}, many), specimen.Part(api.Self), calling(name, many))
			n.At = 9
			if scope.Builtin(name, many) {
				checks(t, n, api.ErrTaken, 9)
			} else {
				checks(t, n, api.OK, 0)
			}
			frees(t, n)
		}
	}
}

// Each thing that is built in, but for these three, may be defined anew.
func TestP19_4Hides(t *testing.T) {
	for _, written := range builtins() {
		name, arity := specimen.Function(written)
		n := specimen.Definition(name, slices.Repeat([]string{"a"}, arity), calling(name, arity), calling(name, arity))
		n.At = 4
		if slices.Contains([]string{"path/1", "getpath/1", "setpath/2"}, written) {
			checks(t, n, api.ErrTaken, 4)
		} else {
			checks(t, n, api.OK, 0)
		}
		frees(t, n)
		more := specimen.Definition(name, slices.Repeat([]string{"a"}, arity+5), specimen.Part(api.Self), specimen.Part(api.Both, calling(name, arity), calling(name, arity+5)))
		checks(t, more, api.OK, 0)
		frees(t, more)
		bound := specimen.NamedPart(api.Bind, name, specimen.Part(api.Self), specimen.NamedPart(api.Label, name, specimen.Part(api.Both, specimen.NamedPart(api.Var, name), specimen.NamedPart(api.Break, name))))
		checks(t, bound, api.OK, 0)
	}
}
