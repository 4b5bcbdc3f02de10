package path_test

import (
	"fmt"
	"iter"
	"slices"
	"testing"

	"hallmark/api"
	"hallmark/path"
	"hallmark/specimen"
	"hallmark/value"
)

// asked is what a call is asked of: a value, ways and a value to be put. What takes one way takes the first, what takes a key the first one of that.
type asked struct {
	v api.Value
	l [][]api.Value
	x api.Value
}

func (a asked) way() []api.Value {
	if len(a.l) == 0 {
		return nil
	}
	return a.l[0]
}

func (a asked) key() api.Value {
	if len(a.way()) == 0 {
		return api.Value{}
	}
	return a.way()[0]
}

// call is one of the package's calls, with what the words say of it; what isn't one value beside an error is told as one.
type call struct {
	name string
	do   func(a asked) (api.Value, api.Errno)
	want func(a asked) (api.Value, api.Errno)
}

// told is a value and whether it is one.
func told(v api.Value, ok bool) api.Value {
	if ok {
		return list(v, kind(api.True))
	}
	return list(v, kind(api.False))
}

// gone is what a sequence gives, each way in a list with its part.
func gone(seq iter.Seq2[[]api.Value, api.Value]) []api.Value {
	var out []api.Value
	for way, part := range seq {
		out = append(out, list(list(way...), part))
	}
	return out
}

// formed is a list of rows where a value is well shaped, and none where it isn't.
func formed(v api.Value, rows func(v api.Value) []api.Value) (api.Value, api.Errno) {
	if !value.Formed(v) {
		return list(), api.OK
	}
	return list(rows(v)...), api.OK
}

var (
	step   = call{"Step", func(a asked) (api.Value, api.Errno) { return told(path.Step(a.v, a.key())), api.OK }, func(a asked) (api.Value, api.Errno) { return told(stepOf(a.v, a.key())), api.OK }}
	get    = call{"Get", func(a asked) (api.Value, api.Errno) { return path.Get(a.v, a.way()) }, func(a asked) (api.Value, api.Errno) { return getOf(a.v, a.way()) }}
	put    = call{"Put", func(a asked) (api.Value, api.Errno) { return path.Put(a.v, a.way(), a.x) }, func(a asked) (api.Value, api.Errno) { return putOf(a.v, a.way(), a.x) }}
	drop   = call{"Drop", func(a asked) (api.Value, api.Errno) { return path.Drop(a.v, a.way()) }, func(a asked) (api.Value, api.Errno) { return dropsOf(a.v, [][]api.Value{a.way()}) }}
	drops  = call{"Drops", func(a asked) (api.Value, api.Errno) { return path.Drops(a.v, a.l) }, func(a asked) (api.Value, api.Errno) { return dropsOf(a.v, a.l) }}
	all    = call{"All", func(a asked) (api.Value, api.Errno) { return list(gone(path.All(a.v))...), api.OK }, func(a asked) (api.Value, api.Errno) { return formed(a.v, allFrom) }}
	leaves = call{"Leaves", func(a asked) (api.Value, api.Errno) { return list(gone(path.Leaves(a.v))...), api.OK }, func(a asked) (api.Value, api.Errno) { return formed(a.v, leavesOf) }}
)

func allFrom(v api.Value) []api.Value { return allOf(v, nil) }

func allCalls() []call { return []call{step, get, put, drop, drops, all, leaves} }

// roomy is a copy whose lists have marked spare room, and the ways of it as arrays.
func roomy(a asked) (asked, []api.Value) {
	out := asked{v: specimen.Roomy(a.v), x: specimen.Roomy(a.x)}
	var ways []api.Value
	for _, p := range a.l {
		ways = append(ways, specimen.Roomy(list(p...)))
		out.l = append(out.l, ways[len(ways)-1].Items)
	}
	out.l = append(out.l, []api.Value{text("spare")})[:len(a.l)]
	return out, ways
}

// untouched says whether a copy is still what roomy has made.
func untouched(a asked, ways []api.Value, before asked) bool {
	right := specimen.Untouched(a.v, before.v) && specimen.Untouched(a.x, before.x)
	for i, p := range before.l {
		right = right && specimen.Untouched(ways[i], list(p...)) && specimen.Alike(list(a.l[i]...), list(p...))
	}
	spare := a.l[:len(a.l)+1][len(a.l)]
	return right && len(spare) == 1 && spare[0].Text == "spare"
}

// short is a text that can be read.
func short(what ...any) string {
	out := fmt.Sprint(what...)
	return out[:min(len(out), 2000)]
}

// check holds a call to the words, and to the rules of memory.
func (c call) check(t *testing.T, a asked) {
	t.Helper()
	given, ways := roomy(a)
	want, code := c.want(a)
	got, e := c.do(given)
	promised := c.name != "Step" || value.Formed(a.v)
	if promised && (e != code || !specimen.Alike(got, want)) {
		t.Errorf("%s of %s = %s, %d, want %s, %d", c.name, short(a), short(got), e, short(want), code)
	}
	if !untouched(given, ways, a) {
		t.Errorf("%s of %s changed what it was given: %s", c.name, short(a), short(given))
	}
	if !specimen.Own(got, append(ways, given.v, given.x)...) {
		t.Errorf("%s of %s: the memory of %s isn't its own", c.name, short(a), short(got))
	}
}

func checkAll(t *testing.T, a asked) {
	t.Helper()
	for _, c := range allCalls() {
		c.check(t, a)
	}
}

// is holds a call to what is written out, as a text of JSON, and refuses to what is an error, of which there is no text.
func (c call) is(t *testing.T, a asked, want string) {
	t.Helper()
	if got, e := c.do(a); e != api.OK || !specimen.Alike(got, js(want)) {
		t.Errorf("%s of %s = %s, %d, want %s", c.name, short(a), short(got), e, want)
	}
	c.check(t, a)
}

func (c call) refuses(t *testing.T, a asked, code api.Errno) {
	t.Helper()
	if got, e := c.do(a); e != code || !specimen.Alike(got, api.Value{}) {
		t.Errorf("%s of %s = %s, %d, want the error %d", c.name, short(a), short(got), e, code)
	}
	c.check(t, a)
}

const example = `{"a":[1,{"b":2},3],"c":null}`

// of is what a call is asked of, as texts: a value, a list of ways, and what is put.
func of(v, l, x string) asked { return asked{js(v), ways(l), js(x)} }

// one is likewise of one way.
func one(v, p, x string) asked { return of(v, "["+p+"]", x) }

func TestP8_1Examples(t *testing.T) {
	for _, row := range [][3]string{
		{example, `"a"`, `[[1,{"b":2},3],true]`}, {example, `"x"`, `[null,true]`}, {`[1,2]`, `-1`, `[2,true]`}, {`[1]`, `5`, `[null,true]`}, {`null`, `7`, `[null,true]`},
		{`1`, `"a"`, `[null,false]`}, {`[1]`, `"a"`, `[null,false]`}, {`{}`, `0`, `[null,false]`},
	} {
		step.is(t, one(row[0], "["+row[1]+"]", "null"), row[2])
	}
}

// Each number around the two ends of an array, and some far off.
func TestP8_1Places(t *testing.T) {
	for many := range 6 {
		v := list()
		for i := range many {
			v.Items = append(v.Items, list(whole(100+i)))
		}
		for n := -2*many - 3; n <= 2*many+3; n++ {
			want := told(api.Value{}, true)
			if at := (n + many) % max(many, 1); -many <= n && n < many {
				want = told(list(whole(100+at)), true)
			}
			part, ok := path.Step(v, whole(n))
			if !specimen.Alike(told(part, ok), want) {
				t.Errorf("Step(%v, %d) = %v, %v", v, n, part, ok)
			}
			checkAll(t, asked{v, [][]api.Value{{whole(n)}}, text("x")})
		}
		for _, n := range far() {
			if part, ok := path.Step(v, num(n)); !ok || !specimen.Alike(part, api.Value{}) {
				t.Errorf("Step(%v, %s) = %v, %v", v, n, part, ok)
			}
			checkAll(t, asked{v, [][]api.Value{{num(n)}}, text("x")})
		}
	}
}

// Each kind of value under each kind of key, and under what is none.
func TestP8_1Kinds(t *testing.T) {
	fits := map[[2]int]bool{{api.Object, api.Text}: true, {api.Array, api.Number}: true, {api.Null, api.Text}: true, {api.Null, api.Number}: true}
	keys := append(noKeys(), text(""), text("a"), text("é"), text("0"), num("0"), num("-1"), num("7"))
	for _, v := range specimen.WellShaped(random(81), 100) {
		for _, key := range keys {
			part, ok := path.Step(v, key)
			if ok != (fits[[2]int{v.Kind, key.Kind}] && value.Formed(key)) || !ok && !specimen.Alike(part, api.Value{}) {
				t.Errorf("Step(%v, %v) = %v, %v", v, key, part, ok)
			}
			step.check(t, asked{v, [][]api.Value{{key}}, api.Value{}})
		}
	}
}

// Null has Null under every key that is one, and nothing under what is none.
func TestP8_1Null(t *testing.T) {
	for _, key := range []api.Value{text(""), text("a"), whole(0), whole(-1), num(far()[15]), num(far()[14])} {
		if part, ok := path.Step(api.Value{}, key); !ok || !specimen.Alike(part, api.Value{}) {
			t.Errorf("Step(null, %v) = %v, %v", key, part, ok)
		}
	}
	for _, key := range noKeys() {
		if part, ok := path.Step(api.Value{}, key); ok || !specimen.Alike(part, api.Value{}) {
			t.Errorf("Step(null, %v) = %v, %v", key, part, ok)
		}
	}
}

// Names that stand near each other, in objects of every number of them.
func TestP8_1Fields(t *testing.T) {
	names := specimen.Names()
	slices.Sort(names)
	for many := range len(names) + 1 {
		v := object(names[:many])
		for i := range many {
			v.Items = append(v.Items, list(whole(i)))
		}
		for i, name := range names {
			want := told(api.Value{}, true)
			if i < many {
				want = told(list(whole(i)), true)
			}
			part, ok := path.Step(v, text(name))
			if !specimen.Alike(told(part, ok), want) {
				t.Errorf("Step(%v, %q) = %v, %v", v, name, part, ok)
			}
			checkAll(t, asked{v, [][]api.Value{{text(name)}}, text("x")})
		}
	}
}

// Of what isn't well shaped Step answers something.
func TestP8_1Misshapen(t *testing.T) {
	for _, v := range specimen.Wrong() {
		for _, key := range []api.Value{text("a"), text("b"), text("z"), text(""), text("\xff"), whole(0), whole(1), whole(-1), num("07"), kind(9), v} {
			step.check(t, asked{v, [][]api.Value{{key}}, api.Value{}})
		}
	}
}

func TestP8_2Examples(t *testing.T) {
	for _, row := range [][2]string{{`["a",-2,"b"]`, `2`}, {`["c","x",1]`, `null`}, {`[]`, example}, {`["a",1]`, `{"b":2}`}, {`["a",-4,"b",-4]`, `null`}, {`["x","y",0,-1]`, `null`}} {
		get.is(t, one(example, row[0], "null"), row[1])
	}
	get.refuses(t, one(example, `["a","b"]`, "null"), api.ErrStep)
	get.refuses(t, one(example, `[null]`, "null"), api.ErrShape)
}

// A key that doesn't fit, at each place of a way; behind Null nothing is one.
func TestP8_2Step(t *testing.T) {
	for _, p := range []string{`[0]`, `["a","0"]`, `["a",0,"b"]`, `["a",0,0]`, `["a",1,0]`, `["a",1,"b","c"]`, `["a",1,"b",0,"c",1]`, `["a",-1,-1]`} {
		get.refuses(t, one(example, p, "null"), api.ErrStep)
		drop.refuses(t, one(example, p, "null"), api.ErrStep)
		drops.refuses(t, one(example, p, "null"), api.ErrStep)
	}
	for _, p := range []string{`["c",0,"x",-1]`, `["x",0,"x"]`, `["a",3,"b",0]`, `["a",-4,"b",0]`, `["a",1,"x",0,"y"]`} {
		get.is(t, one(example, p, "null"), "null")
		drop.is(t, one(example, p, "null"), example)
	}
	for _, v := range []string{`true`, `false`, `0`, `""`} {
		get.refuses(t, one(v, `["a"]`, "null"), api.ErrStep)
		get.refuses(t, one(v, `[0]`, "null"), api.ErrStep)
		get.is(t, one(v, `[]`, "null"), v)
	}
}

// What isn't well shaped is told ahead of all else, wherever it stands.
func TestP8_2P8_3P8_4P8_5Shape(t *testing.T) {
	right := []asked{one(example, `["a",1,"b"]`, `1`), one(example, `["a","b"]`, `1`), one(`[]`, `[-1]`, `1`), one(`[]`, `[70000]`, `1`), one(`1`, `[]`, `1`), one(`null`, `["a",0]`, `1`)}
	for _, bad := range specimen.Wrong() {
		for _, a := range right {
			for _, c := range []call{get, put, drop, drops} {
				c.refuses(t, asked{bad, a.l, a.x}, api.ErrShape)
			}
			put.refuses(t, asked{a.v, a.l, bad}, api.ErrShape)
		}
		for _, l := range [][][]api.Value{nil, {}, {nil}} {
			for _, c := range []call{get, put, drop, drops} {
				c.refuses(t, asked{bad, l, whole(1)}, api.ErrShape)
			}
		}
		put.refuses(t, asked{whole(1), nil, bad}, api.ErrShape)
	}
	for _, bad := range noKeys() {
		for _, a := range right {
			for at := range len(a.way()) + 1 {
				l := [][]api.Value{slices.Insert(slices.Clone(a.way()), at, bad)}
				for _, c := range []call{get, put, drop, drops} {
					c.refuses(t, asked{a.v, l, a.x}, api.ErrShape)
				}
			}
		}
	}
}

func TestP8_3Examples(t *testing.T) {
	for _, row := range [][4]string{
		{example, `["a",1,"b"]`, `7`, `{"a":[1,{"b":7},3],"c":null}`}, {`null`, `["x",2]`, `1`, `{"x":[null,null,1]}`}, {`[1]`, `[-1]`, `2`, `[2]`},
		{`5`, `[]`, `[]`, `[]`}, {`[0]`, `[1]`, `5`, `[0,5]`}, {`[0]`, `[2]`, `5`, `[0,null,5]`}, {`[]`, `[0]`, `{}`, `[{}]`}, {`{}`, `[""]`, `1`, `{"":1}`},
		{`{"b":1}`, `["a"]`, `2`, `{"a":2,"b":1}`}, {`{"a":1,"c":3}`, `["b"]`, `2`, `{"a":1,"b":2,"c":3}`}, {`{"a":1}`, `["b"]`, `2`, `{"a":1,"b":2}`}, {`{"a":1}`, `["a"]`, `null`, `{"a":null}`},
		{`null`, `["a","b",1,"c"]`, `0`, `{"a":{"b":[null,{"c":0}]}}`}, {`[[1],[2]]`, `[-1,-1]`, `3`, `[[1],[3]]`}, {`[[1],[2]]`, `[-2,1]`, `3`, `[[1,3],[2]]`}, {example, `["c","d",1]`, `9`, `{"a":[1,{"b":2},3],"c":{"d":[null,9]}}`},
		{`[null,null]`, `[0,"a"]`, `1`, `[{"a":1},null]`}, {`[1,2,3]`, `[-3]`, `[9]`, `[[9],2,3]`}, {`null`, `[]`, `1`, `1`}, {`{"a":{"b":1,"c":2}}`, `["a","b"]`, `{}`, `{"a":{"b":{},"c":2}}`},
	} {
		put.is(t, one(row[0], row[1], row[2]), row[3])
	}
}

// Which error comes first: that of the first key that has one.
func TestP8_3Errors(t *testing.T) {
	for _, row := range []struct {
		v, p string
		code api.Errno
	}{
		{`[1]`, `[-2]`, api.ErrFront}, {`[]`, `[65537]`, api.ErrMany}, {`null`, `[40000,40000]`, api.ErrMany}, {`1`, `["a"]`, api.ErrStep}, {`{"a":1}`, `["a","b"]`, api.ErrStep},
		{`[]`, `["a"]`, api.ErrStep}, {`{}`, `[0]`, api.ErrStep}, {`{}`, `[-1]`, api.ErrStep}, {`{}`, `[70000]`, api.ErrStep}, {`true`, `[0]`, api.ErrStep}, {`""`, `[-1]`, api.ErrStep}, {`"a"`, `["a"]`, api.ErrStep}, {`false`, `[70000]`, api.ErrStep},
		{`null`, `[-1]`, api.ErrFront}, {`[]`, `[-1]`, api.ErrFront}, {`[1,2]`, `[-3]`, api.ErrFront}, {`[[1]]`, `[0,-2]`, api.ErrFront}, {`{"a":null}`, `["a",-1]`, api.ErrFront}, {`{}`, `["a",-1]`, api.ErrFront}, {`[]`, `[0,-1]`, api.ErrFront},
		{`[1]`, `[-2,"a"]`, api.ErrFront}, {`[1]`, `[0,-2]`, api.ErrStep}, {`[1]`, `[0,70000]`, api.ErrStep}, {`[1]`, `[-2,70000]`, api.ErrFront}, {`[1]`, `[70000,-1]`, api.ErrMany}, {`[1]`, `[70000,"a",-1]`, api.ErrMany}, {`null`, `[-1,70000]`, api.ErrFront},
		{`null`, `[40000,-1]`, api.ErrFront}, {`null`, `[40000,"a",-1]`, api.ErrFront}, {`null`, `[40000,"a",40000,-1]`, api.ErrMany}, {`null`, `[40000,"a",-1,40000]`, api.ErrFront}, {`[[1]]`, `[0,0,70000]`, api.ErrStep}, {`[[1]]`, `[0,"a",-1]`, api.ErrStep}, {`[[1]]`, `["a",-1]`, api.ErrStep},
		{`[]`, `[9223372036854775807]`, api.ErrMany}, {`[]`, `[9223372036854775808]`, api.ErrMany}, {`[]`, `[18446744073709551616]`, api.ErrMany}, {`[]`, `[4294967296]`, api.ErrMany}, {`null`, `[1,9223372036854775807]`, api.ErrMany}, {`null`, `[65536,9223372036854775807]`, api.ErrMany},
		{`[0]`, `[-9223372036854775807]`, api.ErrFront}, {`[0]`, `[-9223372036854775808]`, api.ErrFront}, {`[0]`, `[-9223372036854775809]`, api.ErrFront}, {`[0]`, `[-18446744073709551615]`, api.ErrFront}, {`[0]`, `[-18446744073709551617]`, api.ErrFront}, {`[0]`, `[-4294967297]`, api.ErrFront},
	} {
		put.refuses(t, one(row.v, row.p, "1"), row.code)
	}
}

// As many Nulls as may be put in, and one more: at one key and at several together, beside items and fields that are there.
func TestP8_3MaxPad(t *testing.T) {
	for _, row := range []struct{ v, most, more string }{
		{`null`, `[65536]`, `[65537]`}, {`[]`, `[65536]`, `[65537]`}, {`[1,2]`, `[65538]`, `[65539]`}, {`null`, `[65536,0]`, `[65536,1]`}, {`null`, `[0,65536]`, `[0,65537]`}, {`null`, `[30000,35536]`, `[30000,35537]`},
		{`null`, `["a",30000,"b",35536,"c"]`, `["a",30000,"b",35537,"c"]`}, {`[[7]]`, `[0,65537]`, `[0,65538]`}, {`[7]`, `[3,65534]`, `[3,65535]`}, {`null`, `[1,1,65534]`, `[1,1,65535]`}, {`{"a":[null,[8]]}`, `["a",-1,65537]`, `["a",-1,65538]`},
		{`[[1,2,3],[4]]`, `[1,11,20000,45526]`, `[1,11,20000,45527]`}, {`null`, `[65536,0,"a",0,0]`, `[65536,0,"a",0,1]`},
	} {
		a := one(row.v, row.most, `["x"]`)
		put.check(t, a)
		got, e := put.do(a)
		if there, f := path.Get(got, a.way()); e != api.OK || f != api.OK || !specimen.Alike(there, js(`["x"]`)) {
			t.Errorf("Put(%s, %s): %d; there is %s, %d", row.v, row.most, e, short(there), f)
		}
		if put := partsOf(got) - partsOf(a.v); put < 65536 {
			t.Errorf("Put(%s, %s) puts %d parts in", row.v, row.most, put)
		}
		put.refuses(t, one(row.v, row.more, `["x"]`), api.ErrMany)
	}
}

func TestP8_4Examples(t *testing.T) {
	for _, row := range [][2]string{
		{`["a",0]`, `{"a":[{"b":2},3],"c":null}`}, {`["a",9]`, example}, {`["x","y"]`, example}, {`[]`, `null`}, {`["c",1]`, example},
		{`["a"]`, `{"c":null}`}, {`["c"]`, `{"a":[1,{"b":2},3]}`}, {`["x"]`, example}, {`["a",1]`, `{"a":[1,3],"c":null}`}, {`["a",2]`, `{"a":[1,{"b":2}],"c":null}`}, {`["a",3]`, example}, {`["a",-1]`, `{"a":[1,{"b":2}],"c":null}`}, {`["a",-3]`, `{"a":[{"b":2},3],"c":null}`},
		{`["a",-4]`, example}, {`["a",1,"b"]`, `{"a":[1,{},3],"c":null}`}, {`["a",-2,"b"]`, `{"a":[1,{},3],"c":null}`}, {`["a",1,"c"]`, example}, {`["a",9,"c",-1]`, example}, {`["c","c"]`, example},
		{`["a",9223372036854775808]`, example}, {`["a",-9223372036854775809]`, example}, {`["a",18446744073709551616]`, example}, {`["a",4294967296]`, example},
	} {
		drop.is(t, one(example, row[0], "null"), row[1])
		drops.is(t, one(example, row[0], "null"), row[1])
	}
	for _, v := range []string{`null`, `true`, `1`, `"a"`, `[]`, `{}`, `[[1]]`} {
		drop.is(t, one(v, `[]`, "null"), "null")
	}
	drop.is(t, one(`null`, `[0,"a"]`, "null"), "null")
	drop.is(t, one(`[1]`, `[0]`, "null"), "[]")
	drop.is(t, one(`{"":1}`, `[""]`, "null"), "{}")
	drop.is(t, one(`[null]`, `[0]`, "null"), "[]")
	drop.is(t, one(`[null]`, `[0,0]`, "null"), "[null]")
}

func TestP8_5Examples(t *testing.T) {
	for _, row := range [][3]string{
		{`[0,1,2,3]`, `[[0],[-1],[0],[1]]`, `[2]`}, {example, `[["a",1],["a",1,"b"],["c"]]`, `{"a":[1,3]}`}, {example, `[]`, example}, {example, `[[]]`, `null`}, {example, `[["a"],[],["a",0]]`, `null`},
		{`[0,1,2,3]`, `[[0],[0],[-4]]`, `[1,2,3]`}, {`[0,1,2,3]`, `[[3],[-1],[2],[-2]]`, `[0,1]`}, {`[0,1,2,3]`, `[[0],[1],[2],[3]]`, `[]`}, {`[0,1,2,3]`, `[[-1],[-2],[-3],[-4]]`, `[]`}, {`[0,1,2,3]`, `[[4],[-5],[1]]`, `[0,2,3]`},
		{`[[0,1],[2,3]]`, `[[0],[1,0]]`, `[[3]]`}, {`[[0,1],[2,3]]`, `[[-1,-1],[0]]`, `[[2]]`}, {`[[0,1],[2,3]]`, `[[1,-1],[-1,0],[0,5]]`, `[[0,1],[]]`}, {`[[0,1],[2,3]]`, `[[0,0],[0],[0,1]]`, `[[2,3]]`}, {`[[0,1],[2,3]]`, `[[0],[0,7,"a"],[0,0]]`, `[[2,3]]`},
		{`{"a":1,"b":2,"c":3}`, `[["a"],["c"]]`, `{"b":2}`}, {`{"a":1,"b":2,"c":3}`, `[["c"],["b"],["a"],["d"]]`, `{}`}, {`{"a":{"b":{"c":1,"d":2}}}`, `[["a","b","c"],["a","b","e"],["a","x","y"]]`, `{"a":{"b":{"d":2}}}`},
		{`[10,11,12,13,14,15,16,17,18,19,20,21]`, `[[10],[9],[2],[-1],[1]]`, `[10,13,14,15,16,17,18]`}, {`null`, `[["a"],[0],["b",-1]]`, `null`}, {`[]`, `[[0],[-1]]`, `[]`}, {`5`, `[]`, `5`},
	} {
		for l := range specimen.Orders(ways(row[1])) {
			drops.is(t, asked{v: js(row[0]), l: l}, row[2])
		}
	}
}

// Which error comes first: that of the first way that has one; a way without keys doesn't hide it, nor does one that another lies within.
func TestP8_5Errors(t *testing.T) {
	for _, row := range []struct {
		l    string
		code api.Errno
	}{
		{`[["a"],[0]]`, api.ErrStep}, {`[[0],[true]]`, api.ErrStep}, {`[[true],[0]]`, api.ErrShape}, {`[[],[0]]`, api.ErrStep}, {`[[],["a"],[null]]`, api.ErrShape}, {`[[0],[]]`, api.ErrStep}, {`[["a","b"],["a"]]`, api.ErrStep}, {`[["a"],["a","b"]]`, api.ErrStep},
		{`[["x"],["c",1],["a",9],["a",1,"b",{}]]`, api.ErrShape}, {`[["a",1,"b",0,{}],[0]]`, api.ErrShape}, {`[[0,{}],["a",0,0]]`, api.ErrShape}, {`[["a",0,0],[0,{}]]`, api.ErrStep}, {`[["a",0],["a",0,"b"]]`, api.ErrStep},
	} {
		drops.refuses(t, of(example, row.l, "null"), row.code)
	}
	drops.refuses(t, asked{v: kind(9), l: ways(`[[null],[0]]`)}, api.ErrShape)
}
