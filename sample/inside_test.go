package sample_test

import (
	"math"
	"slices"
	"testing"

	"hallmark/api"
	"hallmark/specimen"
)

func TestP14_1Lengths(t *testing.T) {
	is(t, arrays(null, 0, -1), "[] [null] [null,null]")
	is(t, arrays(null, 0, 1), "[] [null]")
	is(t, arrays(null, 0, 2), "[] [null] [null,null]")
	is(t, arrays(null, 0, 3), "[] [null] [null,null]")
	is(t, arrays(null, 0, math.MaxInt), "[] [null] [null,null]")
	is(t, arrays(null, 1, -1), "[null] [null,null] [null,null,null]")
	is(t, arrays(null, 1, 1), "[null]")
	is(t, arrays(null, 1, 2), "[null] [null,null]")
	is(t, arrays(null, 1, 1<<40), "[null] [null,null] [null,null,null]")
	is(t, arrays(null, 4, -1), "[null,null,null,null] [null,null,null,null,null] [null,null,null,null,null,null]")
	is(t, arrays(null, 4, 5), "[null,null,null,null] [null,null,null,null,null]")
	is(t, arrays(null, 2, 2), "[null,null]")
	for _, least := range []int{4097, 5000, 1 << 31, 1 << 40, math.MaxInt - 2, math.MaxInt - 1, math.MaxInt} {
		for _, item := range []api.Type{null, every, anyNumber, specimen.Nest(every, 9)} {
			is(t, arrays(item, least, -1), "")
			is(t, arrays(item, least, least), "")
			is(t, arrays(item, least, math.MaxInt), "")
		}
	}
}

// Items of no, one, two, three and many samples.
func TestP14_1Items(t *testing.T) {
	is(t, arrays(tooHeavy, 0, -1), "[]")
	is(t, arrays(tooHeavy, 1, -1), "")
	is(t, arrays(tooHeavy, 0, 1), "[]")
	is(t, arrays(both, 0, 3), "[] [null] [true] [null,true] [true,null]")
	is(t, arrays(both, 3, 3), "[null,true,null] [true,null,true]")
	is(t, arrays(nums("1", "3"), 1, 2), "[1] [3] [2] [1,3] [3,2] [2,1]")
	is(t, arrays(nums("1", "3"), 4, 4), "[1,3,2,1] [3,2,1,3] [2,1,3,2]")
	is(t, arrays(texts("a", "b", "c", "d"), 1, -1), `["a"] ["b"] ["c"] ["a","b"] ["b","c"] ["c","d"] ["a","b","c"] ["b","c","d"] ["c","d","a"]`)
	is(t, arrays(anyNumber, 6, 6), "[0,1,-1,2,10,-7] [1,-1,2,10,-7,100000000000000000000] [-1,2,10,-7,100000000000000000000,0]")
	many := texts(specimen.Named(50)...)
	for least := range 55 {
		check(t, arrays(many, least, -1))
		check(t, arrays(with(many, tooHeavy), least, least+1))
	}
}

// repeated is an array of JSON of so many values.
func repeated(s string, n int) api.Value { return turned(s, 0, n) }

// Arrays that weigh 4096, and one more.
func TestP14_1HeavyArrays(t *testing.T) {
	isRow(t, arrays(null, 4092, -1), []api.Value{repeated("null", 4092), repeated("null", 4093), repeated("null", 4094)})
	isRow(t, arrays(null, 4093, -1), []api.Value{repeated("null", 4093), repeated("null", 4094), repeated("null", 4095)})
	isRow(t, arrays(null, 4094, -1), []api.Value{repeated("null", 4094), repeated("null", 4095)})
	isRow(t, arrays(null, 4094, 4094), []api.Value{repeated("null", 4094)})
	isRow(t, arrays(null, 4095, -1), []api.Value{repeated("null", 4095)})
	is(t, arrays(null, 4096, -1), "")
	isRow(t, arrays(nums("10", "10"), 1365, 1365), []api.Value{repeated("10", 1365)})
	is(t, arrays(nums("10", "10"), 1366, -1), "")
	mixed := with(null, texts("four")) // 1 and 5: an odd number of items weighs more or less by where it begins
	isRow(t, arrays(mixed, 1365, 1365), []api.Value{turned(`null "four"`, 0, 1365)})
	isRow(t, arrays(mixed, 1364, -1), []api.Value{turned(`null "four"`, 0, 1364), turned(`null "four"`, 1, 1364), turned(`null "four"`, 0, 1365)})
	is(t, arrays(texts(long(4094)), 0, -1), `[] ["`+long(4094)+`"]`)
	is(t, arrays(texts(long(4095)), 0, -1), "[]")
	is(t, arrays(texts("a", long(4095)), 1, 1), `["a"]`)
	is(t, arrays(texts("a", long(4095)), 2, 2), "")
	is(t, arrays(arrays(null, 4094, -1), 1, -1), `[`+toldNulls(4094)+`]`) // the inner one that weighs 4096 has no room in another one
	is(t, arrays(arrays(null, 4000, -1), 4000, -1), "")
	is(t, arrays(arrays(arrays(null, 4095, -1), 1, -1), 1, -1), "")
	is(t, arrays(arrays(arrays(null, 4095, -1), 1, -1), 0, -1), "[]")
}

// toldNulls is a text of JSON of so many nulls in an array.
func toldNulls(n int) string {
	out := "["
	for i := range n {
		if i > 0 {
			out += ","
		}
		out += "null"
	}
	return out + "]"
}

func TestP14_1Fields(t *testing.T) {
	is(t, objects(objOf(never, nil)), "{}")
	is(t, objects(objOf(never, []string{"a"}, null)), `{} {"a":null}`)
	is(t, objects(objOf(never, []string{"a!"}, null)), `{"a":null}`)
	is(t, objects(objOf(never, []string{"a"}, never)), "{}")
	is(t, objects(objOf(never, []string{"a"}, tooHeavy)), "{}")
	is(t, objects(objOf(never, []string{"a!"}, tooHeavy)), "")
	is(t, objects(objOf(null, []string{"a!"}, tooHeavy)), "")
	is(t, objects(objOf(null, []string{"a!", "b!"}, null, tooHeavy)), "")
	is(t, objects(objOf(null, []string{"a!", "b!"}, tooHeavy, null)), "")
	is(t, objects(objOf(tooHeavy, []string{"a!"}, null)), `{"a":null}`)
	is(t, objects(objOf(tooHeavy, nil)), "{}")
	is(t, objects(objOf(truth, []string{"a", "b"}, never, null)), `{} {"b":null} {"x":true}`)
	is(t, objects(objOf(truth, []string{"a!", "b", "c!"}, null, tooHeavy, null)), `{"a":null,"c":null} {"a":null,"c":null,"x":true}`)
	is(t, objects(objOf(truth, []string{"a!", "b", "c!", "d"}, null, null, null, null)), `{"a":null,"c":null} {"a":null,"b":null,"c":null,"d":null} {"a":null,"c":null,"x":true}`)
	is(t, objects(objOf(null, []string{"a!"}, tooHeavy), objOf(never, []string{"b!"}, null)), `{"b":null}`)
}

// Three rounds: a field of c samples has that of the number i mod c.
func TestP14_1Rounds(t *testing.T) {
	one, two, three, four := null, both, nums("1", "3"), texts("a", "b", "c", "d")
	is(t, objects(objOf(never, []string{"a!"}, two)), `{"a":null} {"a":true}`)
	is(t, objects(objOf(never, []string{"a!"}, three)), `{"a":1} {"a":3} {"a":2}`)
	is(t, objects(objOf(never, []string{"a!"}, four)), `{"a":"a"} {"a":"b"} {"a":"c"}`)
	is(t, objects(objOf(never, []string{"a!", "b!", "c!", "d!"}, one, two, three, four)), `{"a":null,"b":null,"c":1,"d":"a"} {"a":null,"b":true,"c":3,"d":"b"} {"a":null,"b":null,"c":2,"d":"c"}`)
	is(t, objects(objOf(three, []string{"a!", "b"}, two, four)), `{"a":null} {"a":null,"b":"a"} {"a":null,"x":1} {"a":true} {"a":true,"b":"b"} {"a":true,"x":3} {"a":null,"b":"c"} {"a":null,"x":2}`)
	is(t, objects(objOf(three, []string{"a"}, two)), `{} {"a":null} {"x":1} {"a":true} {"x":3} {"x":2}`)
	is(t, objects(objOf(two, []string{"a!"}, one)), `{"a":null} {"a":null,"x":null} {"a":null,"x":true}`)
	is(t, objects(objOf(never, []string{"a", "b"}, two, three)), `{} {"a":null,"b":1} {"a":true,"b":3} {"a":null,"b":2}`)
	is(t, objects(objOf(never, []string{"a!"}, nums("1", "1"))), `{"a":1}`) // Low, High and 1 are one sample
}

// The field that isn't named stands where its name does.
func TestP14_1Unnamed(t *testing.T) {
	is(t, objects(objOf(truth, []string{"a!", "z!"}, null, null)), `{"a":null,"z":null} {"a":null,"x":true,"z":null}`)
	is(t, objects(objOf(truth, []string{"z!"}, null)), `{"z":null} {"x":true,"z":null}`)
	is(t, objects(objOf(truth, []string{"", "X!"}, null, null)), `{"X":null} {"":null,"X":null} {"X":null,"x":true}`)
	is(t, objects(objOf(truth, []string{"x"}, null)), `{} {"x":null} {"xx":true}`)
	is(t, objects(objOf(truth, []string{"x"}, never)), `{} {"xx":true}`)
	is(t, objects(objOf(truth, []string{"x"}, truth)), `{} {"x":true} {"xx":true}`)
	is(t, objects(objOf(truth, []string{"xx"}, null)), `{} {"xx":null} {"x":true}`)
	is(t, objects(objOf(truth, []string{"xx!"}, null)), `{"xx":null} {"x":true,"xx":null}`)
	is(t, objects(objOf(truth, []string{"x", "xx!"}, null, null)), `{"xx":null} {"x":null,"xx":null} {"xx":null,"xxx":true}`)
	is(t, objects(objOf(truth, []string{"x!", "xa", "xx", "xxxx!"}, null, never, tooHeavy, null)), `{"x":null,"xxxx":null} {"x":null,"xxx":true,"xxxx":null}`)
	is(t, objects(objOf(truth, []string{"xy!", "é!"}, null, null)), `{"xy":null,"é":null} {"x":true,"xy":null,"é":null}`)
}

// Alternatives that give the same objects.
func TestP14_1Alternatives(t *testing.T) {
	must, may := objOf(never, []string{"a!"}, null), objOf(never, []string{"a"}, null)
	is(t, objects(must, must), `{"a":null}`)
	is(t, objects(must, may), `{"a":null} {}`)
	is(t, objects(may, must), `{} {"a":null}`)
	is(t, objects(objOf(never, nil), may, objOf(truth, nil), objOf(never, []string{"x!"}, both)), `{} {"a":null} {"x":true} {"x":null}`)
	is(t, objects(objOf(null, nil), objOf(both, nil), objOf(truth, []string{"x"}, null)), `{} {"x":null} {"x":true} {"xx":true}`)
	is(t, arrays(objects(must, may), 2, 2), `[{"a":null},{}] [{},{"a":null}]`)
	is(t, objects(objOf(objects(must, may, must), nil)), `{} {"x":{"a":null}} {"x":{}}`)
}

// Values that nearly stand there already: they differ in kind, in a name, in their order, or in what lies within what.
func TestP14_3NearlySame(t *testing.T) {
	k := func(field api.Type) api.Obj { return objOf(never, []string{"k!"}, field) }
	list := func(items ...api.Type) api.Type { // an array of samples, one of each of these types
		out := never
		for _, item := range items {
			out = with(out, item)
		}
		return arrays(out, len(items), len(items))
	}
	number, digits, empty := nums("1", "1"), texts("1"), arrays(never, 0, 0)
	for _, alts := range [][]api.Obj{
		{k(number), k(digits), k(null), k(truth), k(empty), k(objects(objOf(never, nil)))},
		{k(list(empty)), k(list(list(empty))), k(arrays(empty, 2, 2)), k(list(null)), k(list(null, empty)), k(list(list(null)))},
		{k(nums("110", "110")), k(list(nums("110", "110"))), k(list(number, null)), k(list(null, number)), k(nums("11", "11")), k(list(nums("11", "11"))), k(arrays(number, 2, 2))},
		{k(texts("a.4b")), k(list(texts("a.4b"))), k(list(texts("a", "b"), null)), k(arrays(texts("a", "b"), 2, 2)), k(list(texts(`a".4"b`))), k(list(texts(`a\".4\"b`))), k(list(texts(`\`))), k(list(texts("ab")))},
		{objOf(never, []string{"a!", "b!"}, null, null), objOf(never, []string{"a0.b!"}, null), objOf(never, []string{`a"0."b!`}, null), objOf(never, []string{"a!"}, null), objOf(never, []string{"b!"}, null), objOf(never, []string{"a!"}, objects(objOf(never, []string{"b!"}, null)))},
	} {
		a := objects(alts...)
		words := samplesOf(a, 0)
		if len(words) < len(alts) {
			t.Errorf("%s: %s", short(a), row(words))
		}
		answers(t, a, words)
		slices.Reverse(alts)
		check(t, objects(alts...))
	}
}

// Objects that weigh 4096, and one more: by what must be there, by what may be, and by what isn't named.
func TestP14_1HeavyObjects(t *testing.T) {
	k := `{"k":"` + long(4092) + `"}`
	is(t, objects(objOf(never, []string{"k!"}, texts(long(4092)))), k)
	is(t, objects(objOf(never, []string{"k!"}, texts(long(4093)))), "")
	is(t, objects(objOf(never, []string{"k"}, texts(long(4092)))), "{} "+k)
	is(t, objects(objOf(never, []string{"k"}, texts(long(4093)))), "{}")
	is(t, objects(objOf(texts(long(4092)), nil)), `{} {"x":"`+long(4092)+`"}`)
	is(t, objects(objOf(texts(long(4093)), nil)), "{}")
	is(t, objects(objOf(never, []string{long(4093) + "!"}, null)), `{"`+long(4093)+`":null}`)
	is(t, objects(objOf(never, []string{long(4094) + "!"}, null)), "")
	is(t, objects(objOf(null, []string{"k!"}, with(null, texts(long(4092))))), `{"k":null} {"k":null,"x":null} {"k":"`+long(4092)+`"}`)
	is(t, objects(objOf(null, []string{"k!"}, with(null, texts(long(4089))))), `{"k":null} {"k":null,"x":null} {"k":"`+long(4089)+`"} {"k":"`+long(4089)+`","x":null}`)
	is(t, objects(objOf(null, []string{"k!"}, with(null, texts(long(4090))))), `{"k":null} {"k":null,"x":null} {"k":"`+long(4090)+`"}`)
	is(t, objects(objOf(never, []string{"k!"}, objects(objOf(never, []string{"k!"}, texts(long(4090)))))), "")
	is(t, objects(objOf(never, []string{"k!"}, objects(objOf(never, []string{"k!"}, texts(long(4089)))))), `{"k":{"k":"`+long(4089)+`"}}`)
	is(t, objects(objOf(never, []string{"k"}, objects(objOf(null, []string{"k!"}, tooHeavy)))), "{}")
	is(t, objects(objOf(never, []string{"k!"}, objects(objOf(null, []string{"k!"}, tooHeavy)))), "")
	for _, many := range []int{585, 586} { // 7 each
		a := specimen.Wide(many, null, true, never)
		if got := samplesOf(objects(a), 0); len(got) != 586-many {
			t.Errorf("%d fields: %d", many, len(got))
		}
		check(t, objects(a))
		check(t, objects(specimen.Wide(many, null, false, null)))
	}
}

// What is heavy, in all that it may stand in, around the greatest weight.
func TestP14_1HeavyInside(t *testing.T) {
	for size := 4080; size <= 4097; size++ {
		heavy := texts("a", long(size))
		for _, a := range []api.Type{
			heavy, arrays(heavy, 0, -1), arrays(with(null, heavy), 1, 3), objects(objOf(heavy, []string{"k!", "l"}, heavy, heavy)), objects(objOf(heavy, []string{"k", "l!"}, texts(long(size)), null)),
			arrays(objects(objOf(heavy, []string{"k"}, heavy)), 0, 1), objects(objOf(arrays(heavy, 0, 1), []string{"k!"}, arrays(texts(long(size)), 1, 1))), arrays(arrays(arrays(texts(long(size)), 0, 1), 0, 1), 0, 1),
		} {
			check(t, a)
			sound(t, a)
		}
	}
}
