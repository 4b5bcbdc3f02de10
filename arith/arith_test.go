package arith_test

import (
	"fmt"
	"math"
	"slices"
	"strings"
	"testing"

	"hallmark/api"
	"hallmark/arith"
	"hallmark/specimen"
)

// call is one of the package's calls of so many values, with what the words say of it.
type call struct {
	name  string
	takes int
	do    func(l []api.Value) answer
	want  func(l []api.Value) answer
}

// doing is Do of an operation, or of what is none.
func doing(op int) call {
	return call{fmt.Sprintf("Do of %d", op), 2, func(l []api.Value) answer { return specimen.Answered(arith.Do(op, l[0], l[1])) }, func(l []api.Value) answer { return doOf(op, l[0], l[1]) }}
}

var (
	negative = call{"Neg", 1, func(l []api.Value) answer { return specimen.Answered(arith.Neg(l[0])) }, func(l []api.Value) answer { return negOf(l[0]) }}
	indexing = call{"Index", 2, func(l []api.Value) answer { return specimen.Answered(arith.Index(l[0], l[1])) }, func(l []api.Value) answer { return indexOf(l[0], l[1]) }}
	slicing  = call{"Slice", 3, func(l []api.Value) answer { return specimen.Answered(arith.Slice(l[0], l[1], l[2])) }, func(l []api.Value) answer { return sliceOf(l[0], l[1], l[2]) }}
	each     = call{"Each", 1, func(l []api.Value) answer { return listed(arith.Each(l[0])) }, func(l []api.Value) answer { return eachOf(l[0]) }}
)

// listed is Each's answer with the list as an array, where there is one.
func listed(l []api.Value, fault api.Value, ok bool) answer {
	if !ok && len(l) == 0 {
		return answer{Fault: fault}
	}
	return specimen.Answered(list(l...), fault, ok)
}

// allCalls are those of each operation, and the others.
func allCalls() []call {
	out := []call{negative, indexing, slicing, each}
	for _, op := range opsOf() {
		out = append(out, doing(op))
	}
	return out
}

// short is a text that can be read.
func short(what ...any) string {
	out := fmt.Sprint(what...)
	return out[:min(len(out), 1000)]
}

// check holds a call to the words, and to the rules of memory.
func (c call) check(t *testing.T, l ...api.Value) {
	t.Helper()
	if wrong := (specimen.Call{Do: c.do, Want: c.want}).Wrong(l[:c.takes]...); wrong != "" {
		t.Errorf("%s of %s: %s", c.name, short(l[:c.takes]), short(wrong))
	}
}

// is holds a call to what is written out, as texts of JSON; the answer is a fault, where a ! stands ahead of it.
func (c call) is(t *testing.T, want string, l ...string) {
	t.Helper()
	var values []api.Value
	for _, s := range l {
		values = append(values, js(s))
	}
	if got := c.do(values).Told(); got != want {
		t.Errorf("%s of %s = %s, want %s", c.name, strings.Join(l, ", "), got, want)
	}
	c.check(t, values...)
}

func TestP20_1Fault(t *testing.T) {
	words := []string{"add", "sub", "mul", "div", "div by 0", "mod", "mod by 0", "neg", "index", "slice", "each", "key", "range"}
	others := []string{"", "no word", "Add", "add ", "\x00", "é", "\uFFFD", "\U0010FFFF", "\uFFFF", "\"", "ad\nd", strings.Repeat("x", 1<<20), "0", "null"}
	for _, word := range append(words, others...) {
		if got := arith.Fault(word); !specimen.Alike(got, text(word)) || !specimen.Alike(got, faultOf(word)) {
			t.Errorf("Fault(%q) = %s", short(word), short(got))
		}
	}
	for _, word := range []string{"\xff", "\xc3", "add\x80", "\x80add", "\xc0\x80", "\xed\xa0\x80", "\xf4\x90\x80\x80", "\xe2\x82", "é\xc3", "\xf0\x9f\x98", strings.Repeat("x", 1<<20) + "\xff"} {
		if got := arith.Fault(word); !specimen.Alike(got, api.Value{}) || !specimen.Alike(got, faultOf(word)) {
			t.Errorf("Fault(%q) = %s", short(word), short(got))
		}
	}
}

// What isn't well shaped, at the top or inside, in each place, beside values of each kind.
func TestP20_2Shape(t *testing.T) {
	right := specimen.AllOfEachKind()
	pick := random(202)
	for _, bad := range specimen.Wrong() {
		for _, c := range allCalls() {
			for at := range c.takes {
				l := make([]api.Value, 3)
				for i := range l {
					l[i] = right[pick(len(right))]
				}
				l[at] = bad
				if got := c.do(l); !alike(got, answer{}) {
					t.Errorf("%s of %s = %s, want neither", c.name, short(l[:c.takes]), got.Told())
				}
				c.check(t, l...)
			}
		}
	}
}

// Each misshapen value beside each kind of the others, so that no row goes ahead of its being looked at.
func TestP20_2ShapeBesideAll(t *testing.T) {
	for _, bad := range append(specimen.Misshapen(), specimen.Around(kind(9))...) {
		for _, c := range allCalls() {
			for _, other := range specimen.AllOfEachKind() {
				for _, l := range [][]api.Value{{bad, other, other}, {other, bad, other}, {other, other, bad}, {other, bad, bad}, {bad, bad, other}, {bad, bad, bad}} {
					spoilt := slices.ContainsFunc(l[:c.takes], func(v api.Value) bool { return !formedOf(v) })
					if got := c.do(l); spoilt != alike(got, answer{}) {
						t.Errorf("%s of %s = %s", c.name, short(l[:c.takes]), got.Told())
					}
				}
			}
		}
	}
}

// Numbers that are no operation.
func TestP20_2Operation(t *testing.T) {
	strange := []int{math.MinInt, math.MaxInt, math.MinInt + api.Add, math.MaxInt - 1, math.MinInt32, math.MaxInt32, 1 << 31, 1 << 32, -1 << 32, 1000}
	for _, op := range opsOf() {
		strange = append(strange, -op, op+1<<8, op-1<<8, op+1<<16, op+1<<32, op-1<<32, op+1<<62, op<<8, op*25)
	}
	for op := -30; op <= 130; op++ {
		if op < 14 || op > 24 {
			strange = append(strange, op)
		}
	}
	for _, op := range strange {
		for _, a := range specimen.AllOfEachKind() {
			for _, b := range []api.Value{a, {}, num("1"), num("0"), text("a"), list(), object(nil), kind(9)} {
				if got := doing(op).do([]api.Value{a, b}); !alike(got, answer{}) {
					t.Errorf("Do(%d, %v, %v) = %s", op, a, b, got.Told())
				}
			}
		}
	}
	for i, op := range opsOf() {
		if op != 14+i {
			t.Errorf("the operation %d has the number %d", i, op)
		}
	}
}

// Which kind of value comes of each two kinds, by the kinds' numbers: of each operation a line for each kind of the first one, in it a sign for each of the second one; ! is the fault, ? False or True.
func TestP20_3Kinds(t *testing.T) {
	any := strings.Repeat("??????? ", 7)
	for op, lines := range map[int]string{
		api.Add: "0123456 1!!!!!! 2!!!!!! 3!!3!!! 4!!!4!! 5!!!!5! 6!!!!!6",
		api.Sub: "!!!!!!! !!!!!!! !!!!!!! !!!3!!! !!!!!!! !!!!!5! !!!!!!!",
		api.Mul: "!!!!!!! !!!!!!! !!!!!!! !!!34!! !!!4!!! !!!!!!! !!!!!!6",
		api.Div: "!!!!!!! !!!!!!! !!!!!!! !!!3!!! !!!!5!! !!!!!!! !!!!!!!",
		api.Mod: "!!!!!!! !!!!!!! !!!!!!! !!!3!!! !!!!!!! !!!!!!! !!!!!!!",
		api.Eq:  any, api.Ne: any, api.Lt: any, api.Le: any, api.Gt: any, api.Ge: any,
	} {
		for x, line := range strings.Fields(lines) {
			for y, sign := range []byte(line) {
				checkKinds(t, op, x, y, sign)
			}
		}
	}
}

// checkKinds holds an operation to a sign, on all values of two kinds.
func checkKinds(t *testing.T, op, x, y int, sign byte) {
	t.Helper()
	for _, a := range specimen.OfEachKind()[x] {
		for _, b := range specimen.OfEachKind()[y] {
			got := doing(op).do([]api.Value{a, b})
			right := got.Ok && got.V.Kind == int(sign-'0')
			switch sign {
			case '!':
				right = alike(got, fails(opWords()[op]))
			case '?':
				right = got.Ok && (got.V.Kind == api.False || got.V.Kind == api.True)
			}
			if !right {
				t.Errorf("Do(%d, %v, %v) = %s, want %c", op, a, b, got.Told(), sign)
			}
			doing(op).check(t, a, b)
		}
	}
}

func TestP20_3Add(t *testing.T) {
	for _, row := range [][3]string{
		{"null", "5", "5"}, {"[1]", "null", "[1]"}, {"1", "2", "3"}, {`"a"`, `"b"`, `"ab"`}, {"[1]", "[1]", "[1,1]"}, {`{"a":1,"b":2}`, `{"a":3}`, `{"a":3,"b":2}`}, {"1", `"a"`, "!add"}, {"true", "true", "!add"}, {"null", "null", "null"},
		{"null", "false", "false"}, {"true", "null", "true"}, {"null", `""`, `""`}, {`{"a":[1]}`, "null", `{"a":[1]}`}, {"null", "[[],{}]", "[[],{}]"},
		{"0", "0", "0"}, {"0", "-5", "-5"}, {"5", "0", "5"}, {"5", "-5", "0"}, {"-5", "-6", "-11"}, {"-5", "3", "-2"}, {"999", "1", "1000"}, {"1", "-1000", "-999"}, {"9223372036854775807", "1", "9223372036854775808"}, {"-9223372036854775808", "-1", "-9223372036854775809"}, {"123456789012345678901234567890", "-123456789012345678901234567889", "1"},
		{`""`, `""`, `""`}, {`""`, `"a"`, `"a"`}, {`"b"`, `"a"`, `"ba"`}, {`"é"`, `"😀"`, `"é😀"`}, {"[]", "[]", "[]"}, {"[]", "[1]", "[1]"}, {"[2,1]", "[]", "[2,1]"}, {"[2,[1]]", "[1,2]", "[2,[1],1,2]"},
		{"{}", "{}", "{}"}, {"{}", `{"a":1}`, `{"a":1}`}, {`{"a":1}`, "{}", `{"a":1}`}, {`{"b":1}`, `{"a":2,"c":3}`, `{"a":2,"b":1,"c":3}`}, {`{"a":{"x":1}}`, `{"a":{"y":2}}`, `{"a":{"y":2}}`}, {`{"a":1}`, `{"a":null}`, `{"a":null}`},
		{"false", "0", "!add"}, {"[]", "{}", "!add"}, {"{}", "[]", "!add"}, {`"1"`, "1", "!add"}, {"false", "false", "!add"}, {"[1]", "1", "!add"},
	} {
		doing(api.Add).is(t, row[2], row[0], row[1])
	}
}

func TestP20_3Sub(t *testing.T) {
	for _, row := range [][3]string{
		{"1", "3", "-2"}, {`[1,2,1,"a"]`, "[1,3]", `[2,"a"]`}, {`"ab"`, `"b"`, "!sub"}, {"{}", "{}", "!sub"}, {"null", "1", "!sub"}, {"1", "null", "!sub"}, {"null", "null", "!sub"}, {"[]", "null", "!sub"}, {"[1]", "1", "!sub"}, {"true", "true", "!sub"},
		{"0", "0", "0"}, {"0", "7", "-7"}, {"7", "0", "7"}, {"-5", "-5", "0"}, {"-5", "5", "-10"}, {"1000", "1", "999"}, {"-9223372036854775808", "1", "-9223372036854775809"}, {"0", "-9223372036854775808", "9223372036854775808"},
		{"[]", "[]", "[]"}, {"[]", "[1]", "[]"}, {"[1,1]", "[]", "[1,1]"}, {"[1,1,1]", "[1]", "[]"}, {"[1,1,1]", "[1,1,1,1]", "[]"}, {"[3,1,2,3,1,2]", "[2,2]", "[3,1,3,1]"}, {"[3,1,2]", "[9,8,7,6,5,4,3]", "[1,2]"}, {"[3,1,2]", "[4,5]", "[3,1,2]"},
		{`["1",1,[1],{"1":1},null,false,true]`, `[1]`, `["1",[1],{"1":1},null,false,true]`}, {`[0,null,false,"",[],{}]`, `[{},[],"",false,null]`, `[0]`}, {`[[1,2],[2,1],[1,2]]`, `[[2,1]]`, `[[1,2],[1,2]]`}, {`[[],[[]],[[[]]]]`, `[[[]]]`, `[[],[[[]]]]`}, {`[{"a":1,"b":2},{"a":1}]`, `[{"b":2,"a":1}]`, `[{"a":1}]`}, {`[1,2,3]`, `[[1],[2],[3]]`, `[1,2,3]`}, {"[-1,1]", "[-1]", "[1]"},
	} {
		doing(api.Sub).is(t, row[2], row[0], row[1])
	}
}

func TestP20_3Mul(t *testing.T) {
	for _, row := range [][3]string{
		{`{"a":{"x":1}}`, `{"a":{"y":2}}`, `{"a":{"x":1,"y":2}}`}, {"[1]", "2", "!mul"}, {"2", "[1]", "!mul"}, {"[]", "[]", "!mul"}, {`"a"`, `"b"`, "!mul"}, {"null", "2", "!mul"}, {"2", "null", "!mul"}, {"null", "null", "!mul"}, {"null", `"a"`, "!mul"}, {"true", "1", "!mul"}, {"{}", "1", "!mul"}, {"1", "{}", "!mul"}, {"{}", `"a"`, "!mul"}, {`"a"`, "true", "!mul"},
		{"0", "0", "0"}, {"0", "-7", "0"}, {"-7", "0", "0"}, {"-12", "12", "-144"}, {"-3", "-4", "12"}, {"1", "-9223372036854775808", "-9223372036854775808"}, {"-1", "-9223372036854775808", "9223372036854775808"}, {"4294967296", "4294967296", "18446744073709551616"}, {"99999999999999999999", "99999999999999999999", "9999999999999999999800000000000000000001"},
		{"{}", "{}", "{}"}, {"{}", `{"a":{"b":1}}`, `{"a":{"b":1}}`}, {`{"a":{"b":1}}`, "{}", `{"a":{"b":1}}`}, {`{"a":1,"b":2}`, `{"b":3,"c":4}`, `{"a":1,"b":3,"c":4}`}, {`{"a":{"b":{"c":1,"d":2}},"z":0}`, `{"a":{"b":{"d":3,"e":4}}}`, `{"a":{"b":{"c":1,"d":3,"e":4}},"z":0}`}, {`{"a":{"b":1}}`, `{"a":5}`, `{"a":5}`}, {`{"a":5}`, `{"a":{"b":1}}`, `{"a":{"b":1}}`}, {`{"a":[{"b":1}]}`, `{"a":[{"c":1}]}`, `{"a":[{"c":1}]}`}, {`{"a":{"b":1}}`, `{"a":null}`, `{"a":null}`}, {`{"a":{"b":{"c":1}}}`, `{"a":{"b":{}}}`, `{"a":{"b":{"c":1}}}`},
	} {
		doing(api.Mul).is(t, row[2], row[0], row[1])
	}
}

// A text and a number, in either order.
func TestP20_3Repeated(t *testing.T) {
	for _, row := range [][3]string{
		{`"ab"`, "3", `"ababab"`}, {`"x"`, "2", `"xx"`}, {`"a"`, "0", "null"}, {`""`, "7", `""`}, {`"a"`, "1048576", "neither"}, {`"a"`, "-5", "null"}, {`"a"`, "-1", "null"}, {`"a"`, "1", `"a"`}, {`"aé😀"`, "2", `"aé😀aé😀"`}, {`"é"`, "1", `"é"`}, {`" \u0000"`, "2", `" \u0000 \u0000"`},
		{`""`, "0", "null"}, {`""`, "-1", "null"}, {`""`, "1", `""`}, {`""`, "2", `""`}, {`""`, "1048575", `""`}, {`""`, "1048576", `""`}, {`""`, "9223372036854775807", `""`}, {`""`, "9223372036854775808", `""`}, {`""`, "99999999999999999999", `""`}, {`""`, "-99999999999999999999", "null"},
		{`"a"`, "9223372036854775807", "neither"}, {`"a"`, "9223372036854775808", "neither"}, {`"a"`, "18446744073709551617", "neither"}, {`"a"`, "-9223372036854775808", "null"}, {`"a"`, "-9223372036854775809", "null"}, {`"a"`, "-18446744073709551615", "null"},
		{`"aaaaaaaa"`, "2305843009213693952", "neither"}, {`"aaaaaaaa"`, "2305843009213693953", "neither"}, {`"aaaa"`, "4611686018427387905", "neither"}, {`"aa"`, "9223372036854775807", "neither"}, {`"a"`, "4294967297", "neither"}, {`"aaaa"`, "1073741825", "neither"},
	} {
		doing(api.Mul).is(t, row[2], row[0], row[1])
		doing(api.Mul).is(t, row[2], row[1], row[0])
	}
	for _, n := range specimen.Far() {
		for _, s := range []string{"", "a", "é", "abcdefgh"} {
			doing(api.Mul).check(t, text(s), num(n))
			doing(api.Mul).check(t, num(n), text(s))
		}
	}
}

// Texts that are just not too heavy, and just too heavy.
func TestP20_3Heavy(t *testing.T) {
	const most = 1048575 // bytes
	for _, s := range []string{"a", "ab", "é", "abc", "€", "abcde", "😀", strings.Repeat("x", 1023), strings.Repeat("y", 1024), strings.Repeat("é", 1000), strings.Repeat("z", 349525), strings.Repeat("z", 349526), strings.Repeat("h", 524287), strings.Repeat("h", 524288), strings.Repeat("v", most), strings.Repeat("v", most+1), strings.Repeat("w", 3*most)} {
		for times := most/len(s) - 1; times <= most/len(s)+2; times++ {
			for _, l := range [][]api.Value{{text(s), whole(times)}, {whole(times), text(s)}} {
				got := doing(api.Mul).do(l)
				weight := 1 + len(s)*times
				right := alike(got, is(text(strings.Repeat(s, max(times, 0)))))
				if times < 1 {
					right = alike(got, is(api.Value{}))
				} else if weight > 1048576 {
					right = alike(got, answer{})
				}
				if !right {
					t.Errorf("%d times a text of %d bytes: %v, a text of %d bytes", times, len(s), got.Ok, len(got.V.Text))
				}
				doing(api.Mul).check(t, l...)
			}
		}
	}
}

func TestP20_3Div(t *testing.T) {
	for _, row := range [][3]string{
		{"7", "-2", "-3"}, {"1", "0", "!div by 0"}, {`"a,b"`, `","`, `["a","b"]`}, {"1", `"a"`, "!div"}, {`"a"`, "0", "!div"}, {`"a"`, "1", "!div"}, {"null", "0", "!div"}, {"0", "null", "!div"}, {"null", "1", "!div"}, {"null", "null", "!div"}, {"[1]", "[1]", "!div"}, {"{}", "{}", "!div"}, {"true", "0", "!div"}, {"[]", "0", "!div"},
		{"0", "0", "!div by 0"}, {"-1", "0", "!div by 0"}, {"99999999999999999999", "0", "!div by 0"}, {"0", "5", "0"}, {"0", "-5", "0"}, {"7", "2", "3"}, {"-7", "2", "-3"}, {"-7", "-2", "3"}, {"1", "2", "0"}, {"-1", "2", "0"}, {"1", "-2", "0"}, {"6", "3", "2"}, {"-6", "3", "-2"}, {"5", "1", "5"}, {"5", "-1", "-5"}, {"-9223372036854775808", "-1", "9223372036854775808"}, {"1000000000000000000000", "999999999999", "1000000000"}, {"1", "99999999999999999999", "0"},
		{`""`, `"x"`, "[]"}, {`""`, `""`, "[]"}, {`"abc"`, `""`, `["a","b","c"]`}, {`"aé😀"`, `""`, `["a","é","😀"]`}, {`"abc"`, `"x"`, `["abc"]`}, {`"abc"`, `"abc"`, `["",""]`}, {`"abc"`, `"abcd"`, `["abc"]`}, {`"a,,b"`, `","`, `["a","","b"]`}, {`",a,"`, `","`, `["","a",""]`}, {`"aaa"`, `"aa"`, `["","a"]`}, {`"aaaa"`, `"aa"`, `["","",""]`}, {`"éaé"`, `"é"`, `["","a",""]`}, {`"a, b"`, `", "`, `["a","b"]`},
	} {
		doing(api.Div).is(t, row[2], row[0], row[1])
	}
}

func TestP20_3Mod(t *testing.T) {
	for _, row := range [][3]string{
		{"-7", "2", "-1"}, {"5", "0", "!mod by 0"}, {`"a"`, "2", "!mod"}, {"2", `"a"`, "!mod"}, {"null", "0", "!mod"}, {"0", "null", "!mod"}, {`"a"`, "0", "!mod"}, {`"a"`, `"a"`, "!mod"}, {"[1]", "[1]", "!mod"}, {"{}", "{}", "!mod"}, {"null", "null", "!mod"}, {"false", "0", "!mod"},
		{"0", "0", "!mod by 0"}, {"-5", "0", "!mod by 0"}, {"99999999999999999999", "0", "!mod by 0"}, {"0", "5", "0"}, {"7", "2", "1"}, {"7", "-2", "1"}, {"-7", "-2", "-1"}, {"-6", "3", "0"}, {"5", "1", "0"}, {"5", "-1", "0"}, {"1", "2", "1"}, {"-1", "2", "-1"}, {"-9223372036854775808", "-1", "0"}, {"1000000000000000000000", "999999999999", "1000000000"}, {"-1", "99999999999999999999", "-1"},
	} {
		doing(api.Mod).is(t, row[2], row[0], row[1])
	}
}

// Values that rise, of one kind and of several: all six comparisons of each two of them.
func TestP20_3Comparisons(t *testing.T) {
	rising := strings.Fields(`null false true -99999999999999999999 -10 -9 -1 0 1 9 10 11 99999999999999999999 "" "1" "a" "aa" "ab" "b" "z" "é" "😀" [] [null] [null,null] [0] [1] [1,2] [1,10] [2] ["a"] [[]] [[0]] [{}] {} {"a":null} {"a":1} {"a":2} {"a":[]} {"a":1,"b":0} {"a":1,"b":1} {"a":2,"b":0} {"a":0,"c":0} {"b":null} {"b":1}`)
	for i, a := range rising {
		for j, b := range rising {
			for op, holds := range map[int]bool{api.Eq: i == j, api.Ne: i != j, api.Lt: i < j, api.Le: i <= j, api.Gt: i > j, api.Ge: i >= j} {
				doing(op).is(t, map[bool]string{true: "true", false: "false"}[holds], a, b)
			}
		}
	}
}

func TestP20_4Neg(t *testing.T) {
	for _, row := range [][2]string{
		{"-5", "5"}, {"0", "0"}, {`"a"`, "!neg"}, {"null", "!neg"}, {"5", "-5"}, {"1", "-1"}, {"-1", "1"}, {"10", "-10"}, {"-9223372036854775808", "9223372036854775808"}, {"9223372036854775808", "-9223372036854775808"}, {"99999999999999999999", "-99999999999999999999"},
		{"false", "!neg"}, {"true", "!neg"}, {`""`, "!neg"}, {`"-1"`, "!neg"}, {"[]", "!neg"}, {"[1]", "!neg"}, {"{}", "!neg"}, {`{"a":1}`, "!neg"},
	} {
		negative.is(t, row[1], row[0])
	}
	for _, n := range specimen.Far() {
		negative.check(t, num(n))
	}
}

func TestP20_5Index(t *testing.T) {
	for _, row := range [][3]string{
		{`{"a":1}`, `"b"`, "null"}, {"[1,2]", "-1", "2"}, {"1", "0", "!index"}, {"[1]", `"a"`, "!index"}, {"null", `"a"`, "null"}, {"null", "7", "null"}, {"null", "null", "!index"}, {"null", "true", "!index"}, {"null", "[]", "!index"}, {"null", "{}", "!index"},
		{`{"a":[1,{"b":2}]}`, `"a"`, `[1,{"b":2}]`}, {`{"a":1,"b":2,"c":3}`, `"c"`, "3"}, {`{"":1}`, `""`, "1"}, {`{"é":1}`, `"é"`, "1"}, {"{}", `"a"`, "null"}, {"{}", "0", "!index"}, {`{"0":1}`, "0", "!index"}, {"{}", "null", "!index"}, {"{}", "{}", "!index"},
		{"[[1],2,3]", "0", "[1]"}, {"[1,2,3]", "2", "3"}, {"[1,2,3]", "3", "null"}, {"[1,2,3]", "-3", "1"}, {"[1,2,3]", "-4", "null"}, {"[]", "0", "null"}, {"[]", "-1", "null"}, {"[1]", "null", "!index"}, {"[1]", "true", "!index"}, {"[1]", "[1]", "!index"}, {"[1]", "[]", "!index"}, {"[1]", "{}", "!index"},
		{"[1]", "9223372036854775808", "null"}, {"[1]", "-9223372036854775809", "null"}, {"[1]", "18446744073709551616", "null"}, {"[1]", "4294967296", "null"},
		{`"abc"`, "0", "!index"}, {`"abc"`, `"a"`, "!index"}, {"true", `"a"`, "!index"}, {"false", "0", "!index"}, {"1", `"a"`, "!index"},
	} {
		indexing.is(t, row[2], row[0], row[1])
	}
	for _, of := range specimen.AllOfEachKind() {
		for _, key := range specimen.AllOfEachKind() {
			indexing.check(t, of, key)
		}
	}
}

func TestP20_6Slice(t *testing.T) {
	for _, row := range [][4]string{
		{"[0,1,2,3]", "1", "-1", "[1,2]"}, {`"aéb"`, "null", "2", `"aé"`}, {"[1]", "5", "2", "[]"}, {"null", "1", "null", "null"}, {"{}", "0", "1", "!slice"}, {"[]", `"a"`, "null", "!slice"},
		{"[0,1,2,3]", "null", "null", "[0,1,2,3]"}, {"[0,1,2,3]", "null", "0", "[]"}, {"[0,1,2,3]", "0", "null", "[0,1,2,3]"}, {"[0,1,2,3]", "0", "0", "[]"}, {"[0,1,2,3]", "2", "2", "[]"}, {"[0,1,2,3]", "3", "2", "[]"}, {"[0,1,2,3]", "4", "null", "[]"}, {"[0,1,2,3]", "null", "4", "[0,1,2,3]"}, {"[0,1,2,3]", "null", "5", "[0,1,2,3]"}, {"[0,1,2,3]", "-1", "null", "[3]"}, {"[0,1,2,3]", "-4", "null", "[0,1,2,3]"}, {"[0,1,2,3]", "-5", "1", "[0]"}, {"[0,1,2,3]", "-5", "-4", "[]"}, {"[0,1,2,3]", "null", "-5", "[]"}, {"[0,1,2,3]", "null", "-1", "[0,1,2]"}, {"[0,1,2,3]", "-2", "-1", "[2]"}, {"[0,1,2,3]", "-1", "-2", "[]"}, {"[0,1,2,3]", "-1", "0", "[]"}, {"[[0],[1]]", "1", "2", "[[1]]"},
		{`"aé😀b"`, "1", "3", `"é😀"`}, {`"aé😀b"`, "-2", "null", `"😀b"`}, {`"aé😀b"`, "2", "3", `"😀"`}, {`"aé😀b"`, "4", "null", `""`}, {`"aé😀b"`, "null", "null", `"aé😀b"`}, {`"aé😀b"`, "3", "1", `""`}, {`""`, "0", "1", `""`}, {`""`, "-1", "null", `""`},
		{"null", "null", "null", "null"}, {"null", "-1", "99999999999999999999", "null"}, {"null", "true", "null", "!slice"}, {"null", "null", "true", "!slice"}, {"null", `""`, `""`, "!slice"},
		{"[1,2]", "-99999999999999999999", "99999999999999999999", "[1,2]"}, {"[1,2]", "99999999999999999999", "null", "[]"}, {"[1,2]", "null", "-99999999999999999999", "[]"}, {"[1,2]", "99999999999999999999", "-99999999999999999999", "[]"}, {"[1,2]", "-9223372036854775808", "9223372036854775807", "[1,2]"}, {"[1,2]", "-9223372036854775809", "9223372036854775808", "[1,2]"}, {"[1,2]", "-18446744073709551615", "18446744073709551617", "[1,2]"}, {`"ab"`, "-99999999999999999999", "99999999999999999999", `"ab"`},
		{"[1]", "false", "null", "!slice"}, {"[1]", "null", "false", "!slice"}, {"[1]", "0", "[]", "!slice"}, {"[1]", "{}", "1", "!slice"}, {`"a"`, "0", `"1"`, "!slice"}, {"5", "0", "1", "!slice"}, {"true", "null", "null", "!slice"}, {"false", "0", "1", "!slice"}, {`{"a":1}`, "null", "null", "!slice"},
	} {
		slicing.is(t, row[3], row[0], row[1], row[2])
	}
}

// Each kind of value cut, at bounds of each kind.
func TestP20_6Kinds(t *testing.T) {
	for _, of := range specimen.AllOfEachKind() {
		for _, from := range specimen.AllOfEachKind() {
			for _, to := range specimen.AllOfEachKind() {
				slicing.check(t, of, from, to)
				cut := of.Kind == api.Null || of.Kind == api.Text || of.Kind == api.Array
				isBound := func(v api.Value) bool { return v.Kind == api.Null || v.Kind == api.Number }
				if got := slicing.do([]api.Value{of, from, to}); got.Ok != (cut && isBound(from) && isBound(to)) || !got.Ok && !alike(got, fails("slice")) {
					t.Errorf("Slice(%v, %v, %v) = %s", of, from, to, got.Told())
				}
			}
		}
	}
}

// rows are an array and a text of so many, no two alike.
func rows(many int) []api.Value {
	runes := []rune{'a', 0xE9, 0x1F600, 'b', 0x20AC, 0, 0xFFFD, 0x10FFFF}
	array := list()
	for i := range many {
		array.Items = append(array.Items, list(whole(i)))
	}
	return []api.Value{array, text(string(runes[:many]))}
}

// boundsNear are Null and the numbers around both ends of a row of so many, and some far off.
func boundsNear(many int) []api.Value {
	out := []api.Value{{}}
	for n := -2*many - 2; n <= 2*many+2; n++ {
		out = append(out, whole(n))
	}
	for _, n := range []string{"4294967296", "-4294967296", "9223372036854775807", "-9223372036854775808", "9223372036854775808", "-9223372036854775809", "18446744073709551617", "-18446744073709551615"} {
		out = append(out, num(n))
	}
	return out
}

func TestP20_6Bounds(t *testing.T) {
	for many := range 6 {
		for _, of := range rows(many) {
			for _, from := range boundsNear(many) {
				for _, to := range boundsNear(many) {
					slicing.check(t, of, from, to)
				}
			}
		}
	}
	for _, of := range rows(5) {
		for _, n := range specimen.Far() {
			for _, bound := range []api.Value{{}, whole(2), whole(-2), num(n), num(specimen.Far()[3])} {
				slicing.check(t, of, num(n), bound)
				slicing.check(t, of, bound, num(n))
			}
		}
	}
}

func TestP20_7Each(t *testing.T) {
	for _, row := range [][2]string{
		{"[1,2]", "[1,2]"}, {`{"b":1,"a":2}`, "[2,1]"}, {"null", "!each"}, {"[]", "[]"}, {"{}", "[]"}, {`[[1],{"a":[]},[1]]`, `[[1],{"a":[]},[1]]`}, {"[2,1,2]", "[2,1,2]"}, {`{"é":1,"z":[2],"":{"a":3}}`, `[{"a":3},[2],1]`},
		{"false", "!each"}, {"true", "!each"}, {"0", "!each"}, {`""`, "!each"}, {`"ab"`, "!each"},
	} {
		each.is(t, row[1], row[0])
	}
	for _, v := range specimen.WellShaped(random(207), 1000) {
		each.check(t, v)
	}
}
