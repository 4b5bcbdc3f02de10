package prim_test

import (
	"fmt"
	"math"
	"slices"
	"strconv"
	"strings"
	"testing"

	"hallmark/api"
	"hallmark/prim"
	"hallmark/specimen"
)

// do is Do, its answer in one.
func do(name string, in api.Value, args ...api.Value) answer {
	return specimen.Answered(prim.Do(name, in, args))
}

// one is a primitive's name, and how many arguments it takes.
type one struct {
	name  string
	takes int
}

// all are the table's names, rising by their bytes.
const all = `_group_by/1 _max_by/1 _min_by/1 _sort_by/1 _unique_by/1 abs/0 add/0 ascii_downcase/0 ascii_upcase/0 contains/1 delpaths/1 endswith/1 explode/0 flatten/0 fromjson/0 getpath/1 has/1 implode/0 indices/1 join/1 keys/0 length/0 ltrimstr/1 max/0 min/0 not/0 reverse/0 rtrimstr/1 setpath/2 sort/0 split/1 startswith/1 toarray/0 tojson/0 tonumber/0 tostring/0 transpose/0 type/0 unique/0 utf8bytelength/0`

func allOnes() []one {
	var out []one
	for _, s := range strings.Fields(all) {
		name, takes, _ := strings.Cut(s, "/")
		n, _ := strconv.Atoi(takes)
		out = append(out, one{name, n})
	}
	return out
}

// noNames are none: what is empty, what is nearly one, and names of filters that aren't primitives.
func noNames() []string {
	out := strings.Fields("nothing map select sort_by group_by unique_by min_by max_by _min _add __sort_by empty error range recurse path paths to_entries with_entries from_entries join/1 length/0 Length LENGTH first last any all floor sqrt test input debug _ / if and . .. $x \xff lengthy lengt")
	return append(out, "", " ", "length ", " length", "length\x00", "add\n", strings.Repeat("x", 100000))
}

// short is a text that can be read.
func short(what ...any) string {
	out := fmt.Sprint(what...)
	return out[:min(len(out), 600)]
}

// check holds a primitive to the words, and to the rules of memory.
func check(t *testing.T, name string, in api.Value, args ...api.Value) {
	t.Helper()
	l := append([]api.Value{in}, args...)
	if wrong := asked(name).Wrong(l...); wrong != "" {
		t.Errorf("%s of %s: %s", name, short(l), short(wrong))
	}
}

// checkRow holds it to a row that is written out: the answer, the input, the primitive, its arguments, all values as texts of JSON; the answer is a fault, where a ! stands ahead of it.
func checkRow(t *testing.T, row ...string) {
	t.Helper()
	var args []api.Value
	for _, s := range row[3:] {
		args = append(args, js(s))
	}
	if got := do(row[2], js(row[1]), args...).Told(); got != row[0] {
		t.Errorf("%s %s %s = %s, want %s", row[1], row[2], strings.Join(row[3:], " "), got, row[0])
	}
	check(t, row[2], js(row[1]), args...)
}

func checkRows(t *testing.T, rows [][]string) {
	t.Helper()
	for _, row := range rows {
		checkRow(t, row...)
	}
}

func TestP21_1Names(t *testing.T) {
	want := strings.Fields(all)
	got := prim.Names()
	if !slices.Equal(got, want) || len(want) != 40 || !slices.IsSorted(got) {
		t.Errorf("%q", got)
	}
	for i := range got[:cap(got)] {
		got[:cap(got)][i] = "scribbled"
	}
	if again := prim.Names(); !slices.Equal(again, want) {
		t.Errorf("what is written into an answer is seen in another: %q", again)
	}
	for name := range rowsOf() {
		if !slices.Contains(want, name) {
			t.Errorf("%s is said by the tests alone", name)
		}
	}
}

func TestP21_1Is(t *testing.T) {
	arities := []int{-2, -1, 0, 1, 2, 3, 4, 10, 47, 48, 49, 50, 256, 257, 1 << 32, 1<<32 + 1, -1 << 32, math.MaxInt, math.MinInt, math.MinInt + 1, math.MinInt + 2}
	for _, p := range allOnes() {
		for _, arity := range arities {
			if prim.Is(p.name, arity) != (arity == p.takes) {
				t.Errorf("Is(%s, %d) isn't %v", p.name, arity, arity == p.takes)
			}
		}
		for _, name := range []string{p.name + "/" + strconv.Itoa(p.takes), p.name + " ", " " + p.name, p.name + "\x00", strings.ToUpper(p.name), "_" + p.name, p.name + p.name} {
			if prim.Is(name, p.takes) {
				t.Errorf("Is(%q, %d)", name, p.takes)
			}
		}
	}
	for _, name := range noNames() {
		for _, arity := range arities {
			if prim.Is(name, arity) {
				t.Errorf("Is(%q, %d)", short(name), arity)
			}
		}
	}
}

// Names that are none, and too few and too many arguments: neither, whatever is handed in.
func TestP21_2NoPrimitive(t *testing.T) {
	for _, in := range append(specimen.AllOfEachKind(), kind(9)) {
		for _, other := range []api.Value{in, {}, num("0"), text("a"), list(), kind(9)} {
			for _, name := range noNames() {
				for many := range 4 {
					checkNeither(t, name, in, slices.Repeat([]api.Value{other}, many)...)
				}
			}
			for _, p := range allOnes() {
				for many := range 6 {
					if many != p.takes {
						checkNeither(t, p.name, in, slices.Repeat([]api.Value{other}, many)...)
					}
				}
			}
		}
	}
	for _, p := range allOnes() {
		checkNeither(t, p.name, list(), make([]api.Value, 70000)...)
	}
}

func checkNeither(t *testing.T, name string, in api.Value, args ...api.Value) {
	t.Helper()
	if got := do(name, in, args...); !alike(got, answer{}) {
		t.Errorf("%s of %s and %s = %s, want neither", short(name), short(in), short(args), short(got.Told()))
	}
}

// What isn't well shaped, at the top or inside, in each place.
func TestP21_2Shape(t *testing.T) {
	right := append(specimen.AllOfEachKind(), js(`["a","b"]`), js("[[1],[2]]"), js("[[0]]"))
	pick := random(212)
	for _, bad := range specimen.Wrong() {
		for _, p := range allOnes() {
			for at := range p.takes + 1 {
				l := make([]api.Value, p.takes+1)
				for i := range l {
					l[i] = right[pick(len(right))]
				}
				l[at] = bad
				checkNeither(t, p.name, l[0], l[1:]...)
				check(t, p.name, l[0], l[1:]...)
			}
		}
	}
}

// Each misshapen value beside each kind of the others, so that no row, and no fault, goes ahead of its being looked at.
func TestP21_2ShapeBesideAll(t *testing.T) {
	for _, bad := range append(specimen.Misshapen(), specimen.Around(kind(9))...) {
		for _, p := range allOnes() {
			for _, other := range specimen.AllOfEachKind() {
				for at := range p.takes + 1 {
					l := slices.Repeat([]api.Value{other}, p.takes+1)
					l[at] = bad
					checkNeither(t, p.name, l[0], l[1:]...)
				}
			}
		}
	}
}

// kindsOf says which kind of value comes of each kind of input, by the kinds' numbers; of a primitive with an argument it is a word for each kind of input, in it a sign for each of the argument. ! is the fault, ? False or True, * something that hangs on more than the kinds.
func kindsOf() map[string]string {
	none := strings.Repeat("!!!!!!! ", 4)
	texts, arrays := none+"!!!!?!! !!!!!!! !!!!!!!", none+"!!!!!!! !!!!!5! !!!!!!!"
	some, same, way := strings.ReplaceAll(arrays, "5", "*"), "0000000 1111111 2222222 3333333 4444444 5555555 6666666", strings.Repeat("!!!!!*! ", 7)
	return map[string]string{
		"length": "3!!3333", "utf8bytelength": "!!!!3!!", "not": "???????", "keys": "!!!!!55", "type": "4444444", "tostring": "4444444", "tojson": "4444444", "tonumber": "!!!3*!!", "fromjson": "!!!!*!!",
		"ascii_downcase": "!!!!4!!", "ascii_upcase": "!!!!4!!", "explode": "!!!!5!!", "implode": "!!!!!*!", "reverse": "5!!!45!", "sort": "!!!!!5!", "min": "!!!!!*!", "max": "!!!!!*!", "unique": "!!!!!5!", "add": "0!!!!*!",
		"flatten": "!!!!!5!", "transpose": "!!!!!*!", "abs": "!!!3!!!", "toarray": "5555555",
		"has": none + "!!!!!!! !!!?!!! !!!!?!!", "contains": "?!!!!!! !??!!!! !??!!!! !!!?!!! !!!!?!! !!!!!?! !!!!!!?", "startswith": texts, "endswith": texts, "ltrimstr": same, "rtrimstr": same,
		"split": strings.ReplaceAll(texts, "?", "5"), "join": none + "!!!!!!! !!!!*!! !!!!!!!", "indices": "0000000 !!!!!!! !!!!!!! !!!!!!! !!!!5!! 5555555 !!!!!!!",
		"_sort_by": arrays, "_group_by": arrays, "_unique_by": arrays, "_min_by": some, "_max_by": some, "getpath": way, "delpaths": way,
	}
}

func TestP21_2Kinds(t *testing.T) {
	kinds := kindsOf()
	for _, p := range allOnes() {
		if p.takes == 2 {
			continue
		}
		words := strings.Fields(kinds[p.name])
		for x, of := range specimen.OfEachKind() {
			for _, in := range of {
				if p.takes == 0 {
					checkSign(t, words[0][x], p.name, in)
					continue
				}
				for y, args := range specimen.OfEachKind() {
					for _, arg := range args {
						checkSign(t, words[x][y], p.name, in, arg)
					}
				}
			}
		}
	}
}

// checkSign holds a primitive to a sign of kindsOf.
func checkSign(t *testing.T, sign byte, name string, in api.Value, args ...api.Value) {
	t.Helper()
	got := do(name, in, args...)
	right := got.Ok && got.V.Kind == int(sign-'0')
	switch sign {
	case '!':
		right = alike(got, fails(strings.TrimPrefix(name, "_")))
	case '?':
		right = got.Ok && (got.V.Kind == api.False || got.V.Kind == api.True)
	case '*':
		right = true
	}
	if !right {
		t.Errorf("%s of %v and %v = %s, want %c", name, in, args, got.Told(), sign)
	}
	check(t, name, in, args...)
}

// The one primitive with two arguments: its way must be an array.
func TestP21_2KindsOfThree(t *testing.T) {
	for _, in := range specimen.AllOfEachKind() {
		for x, ways := range specimen.OfEachKind() {
			for _, way := range ways {
				for _, put := range specimen.AllOfEachKind() {
					if got := do("setpath", in, way, put); x != api.Array && !alike(got, fails("setpath")) {
						t.Errorf("setpath of %v, %v, %v = %s", in, way, put, got.Told())
					}
					check(t, "setpath", in, way, put)
				}
			}
		}
	}
}

func TestP21_4String(t *testing.T) {
	for _, row := range [][2]string{
		{"null", "null"}, {"false", "false"}, {"true", "true"}, {"0", "0"}, {"-12", "-12"}, {"123456789012345678901234567890", "123456789012345678901234567890"}, {`""`, ""}, {`"x"`, "x"}, {`"null"`, "null"}, {`"a\"\\\n\u0001é😀"`, "a\"\\\n\x01é😀"},
		{"[]", "[]"}, {`[1, "a", null]`, `[1,"a",null]`}, {`["a\n\u007f"]`, `["a\n\u007f"]`}, {"{}", "{}"}, {`{"b": [1, {"c": []}], "a": "x"}`, `{"a":"x","b":[1,{"c":[]}]}`}, {`{"\n": 1}`, `{"\n":1}`},
	} {
		v := specimen.Roomy(js(row[0]))
		if got := prim.String(v); got != row[1] || got != stringOf(v) || !specimen.Untouched(v, js(row[0])) {
			t.Errorf("String(%s) = %q, want %q", row[0], got, row[1])
		}
	}
	for _, v := range specimen.WellShaped(random(214), 2000) {
		given := specimen.Roomy(v)
		if got := prim.String(given); got != stringOf(v) || !specimen.Untouched(given, v) {
			t.Errorf("String(%s) = %q", short(v), short(got))
		}
	}
	for _, bad := range specimen.Wrong() {
		given := specimen.Roomy(bad)
		if got := prim.String(given); got != "" || !specimen.Untouched(given, bad) {
			t.Errorf("String(%s) = %q", short(bad), short(got))
		}
	}
	for _, n := range []int{1048575, 1048576, 5000000} { // no bound is set here
		if got := prim.String(list(text(strings.Repeat("\x01", n)))); len(got) != 6*n+4 {
			t.Errorf("String of a text of %d bytes in an array has %d", n, len(got))
		}
	}
}
