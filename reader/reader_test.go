package reader_test

import (
	"iter"
	"math/rand"
	"runtime"
	"slices"
	"strings"
	"sync"
	"testing"

	"hallmark/api"
	"hallmark/reader"
	"hallmark/token"
	"hallmark/value"
)

// right says whether a value is this one, and well shaped.
func right(got, want api.Value) bool { return value.Formed(got) && value.Same(got, want) }

func checkOne(t *testing.T, s string, want api.Value) {
	t.Helper()
	if v, e, at := reader.One(s); !right(v, want) || e != api.OK || at != 0 {
		t.Errorf("One(%q) = %v, %d, %d, want %v", s, v, e, at, want)
	}
	checkMany(t, s, want)
}

func checkMany(t *testing.T, s string, want ...api.Value) {
	t.Helper()
	if l, e, at := reader.Many(s); !slices.EqualFunc(l, want, right) || e != api.OK || at != 0 {
		t.Errorf("Many(%q) = %v, %d, %d, want %v", s, l, e, at, want)
	}
	checkValues(t, s, want...)
}

func checkValues(t *testing.T, s string, want ...api.Value) {
	t.Helper()
	if got := slices.Collect(reader.Values(s)); !slices.EqualFunc(got, want, right) {
		t.Errorf("Values(%q) gives %v, want %v", s, got, want)
	}
}

func isZero(v api.Value) bool {
	return v.Kind == 0 && v.Num == "" && v.Text == "" && len(v.Items) == 0 && len(v.Keys) == 0
}

func refusesOne(t *testing.T, s string, e api.Errno, at int) {
	t.Helper()
	if v, gotE, gotAt := reader.One(s); !isZero(v) || gotE != e || gotAt != at {
		t.Errorf("One(%q) = %v, %d, %d, want %d, %d", s, v, gotE, gotAt, e, at)
	}
}

func refusesMany(t *testing.T, s string, e api.Errno, at int) {
	t.Helper()
	if l, gotE, gotAt := reader.Many(s); len(l) != 0 || gotE != e || gotAt != at {
		t.Errorf("Many(%q) = %v, %d, %d, want %d, %d", s, l, gotE, gotAt, e, at)
	}
}

// refuses holds a text that is refused within its first value: One and Many say the same of it, and Values gives nothing.
func refuses(t *testing.T, s string, e api.Errno, at int) {
	t.Helper()
	for _, ahead := range []string{"", " ", "\r\n\t"} {
		refusesOne(t, ahead+s, e, len(ahead)+at)
		refusesMany(t, ahead+s, e, len(ahead)+at)
		checkValues(t, ahead+s)
	}
	for _, ahead := range []string{"1 ", "[1]", `"x"{"a":[]}`} {
		refusesMany(t, ahead+s, e, len(ahead)+at)
	}
}

// refusesInside holds likewise, and within brackets too.
func refusesInside(t *testing.T, s string, e api.Errno, at int) {
	t.Helper()
	for _, ahead := range []string{"", "[1, ", `{"é" : [null,{}], "a":`, `[[], {"a":{"a":[null,`} {
		refuses(t, ahead+s, e, len(ahead)+at)
	}
}

// checkWords holds One, Many and Values of a text against the chapter's words.
func checkWords(t *testing.T, s string) {
	t.Helper()
	all := readingOf(s)
	values := slices.Collect(reader.Values(s))
	if !slices.EqualFunc(values, all.spans, spanSays(s)) {
		t.Errorf("Values(%q) gives %v", s, values)
	}
	l, e, at := reader.Many(s)
	if all.e != api.OK {
		all.spans = nil
	}
	if !slices.EqualFunc(l, all.spans, spanSays(s)) || e != all.e || at != all.at {
		t.Errorf("Many(%q) = %v, %d, %d, want %v", s, l, e, at, all)
	}
	one := oneOf(s)
	v, e, at := reader.One(s)
	if e != one.e || at != one.at || e != api.OK && !isZero(v) || e == api.OK && !spanSays(s)(v, one.spans[0]) {
		t.Errorf("One(%q) = %v, %d, %d, want %v", s, v, e, at, one)
	}
}

// spanSays holds a value against a piece of a text.
func spanSays(s string) func(v api.Value, span [2]int) bool {
	return func(v api.Value, span [2]int) bool {
		return value.Formed(v) && value.Depth(v) <= api.MaxDepth && says(v, said(s[span[0]:span[1]]))
	}
}

func TestP5_1Many(t *testing.T) {
	one, two := num("1"), num("2")
	checkMany(t, "")
	for _, s := range []string{" ", "\t", "\n", "\r", "   ", "\r\n \t\r\n"} {
		checkMany(t, s)
	}
	checkMany(t, "1", one)
	checkMany(t, " 1 ", one)
	checkMany(t, "1 2", one, two)
	checkMany(t, "1\n2\n", one, two)
	checkMany(t, `1 "x"[]`, one, text("x"), list())
	checkMany(t, `[1][2]`, list(one), list(two))
	checkMany(t, `{}{"a":1}"a"null"b"`, object(""), object("a", one), text("a"), api.Value{}, text("b"))
	checkMany(t, "1[]2{}true[]", one, list(), two, object(""), api.Value{Kind: api.True}, list())
	checkMany(t, "null null false true", api.Value{}, api.Value{}, api.Value{Kind: api.False}, api.Value{Kind: api.True})
	checkMany(t, `1 1 1`, one, one, one)
	checkMany(t, `{"a":1} {"a":2}`, object("a", one), object("a", two)) // the key is in another object
	checkMany(t, repeated("[", 64)+repeated("]", 64)+"[]", nested(64), list())
}

func TestP5_1Refusals(t *testing.T) {
	refusesMany(t, "1 2 ,", api.ErrToken, 4)
	refusesMany(t, "{} {", api.ErrEnd, 4)
	refusesMany(t, "1,2", api.ErrToken, 1)
	refusesMany(t, "[] :", api.ErrToken, 3)
	refusesMany(t, "1 ] 2", api.ErrToken, 2)
	refusesMany(t, "1 [2] 3.5 4", api.ErrNumber, 6)
	refusesMany(t, "1 2 x", api.ErrWord, 4)
	refusesMany(t, "1 2 [3", api.ErrEnd, 6)
	refusesMany(t, "1 2 [3  ", api.ErrEnd, 8)
	refusesMany(t, `{"a":1} {"b":1,"b":2}`, api.ErrTwice, 15)
	refusesMany(t, "1 "+repeated("[", 65), api.ErrDeep, 66)
	refusesMany(t, "[1] x", api.ErrWord, 4)
	refusesMany(t, `"a" "b`, api.ErrQuote, 6)
	refusesMany(t, "\xff", api.ErrByte, 0)
}

func TestP5_2Examples(t *testing.T) {
	checkOne(t, `{"b": [1, -0], "a": null}`, object("a b", api.Value{}, list(num("1"), num("0"))))
	refusesOne(t, "", api.ErrEnd, 0)
	refusesOne(t, "   ", api.ErrEnd, 3)
	refusesOne(t, "1 2", api.ErrMore, 2)
	refusesOne(t, "[1] x", api.ErrWord, 4)
	refusesOne(t, "1 x", api.ErrWord, 2)
	for s, at := range map[string]int{"[1,]": 3, "[1 2]": 3, `{"a" 1}`: 5, "{1:2}": 1, "]": 0, `{"a":1,}`: 7} {
		refusesInside(t, s, api.ErrToken, at)
	}
	for _, s := range []string{"[1", `{"a"`, `{"a":`, "[", `{"a":1`} {
		refusesInside(t, s, api.ErrEnd, len(s))
	}
	refusesInside(t, "[1.5]", api.ErrNumber, 1)
	refusesInside(t, "[1,'a'", api.ErrByte, 3)
	refusesInside(t, `["a`, api.ErrQuote, 3)
	refusesInside(t, `{"a":1,"\u0061":2}`, api.ErrTwice, 7)
	checkOne(t, `{"a":{"a":1}}`, object("a", object("a", num("1"))))
	checkOne(t, repeated("[", 64)+repeated("]", 64), nested(64))
	refuses(t, repeated("[", 65), api.ErrDeep, 64)
	refusesInside(t, "[}1.5", api.ErrToken, 1)
}

// nested are so many arrays, one in the other.
func nested(deep int) api.Value {
	v := list()
	for range deep - 1 {
		v = list(v)
	}
	return v
}

func TestP5_2Ordinary(t *testing.T) {
	one, two := num("1"), num("2")
	checkOne(t, "null", api.Value{})
	checkOne(t, "false", api.Value{Kind: api.False})
	checkOne(t, "true", api.Value{Kind: api.True})
	for _, s := range []string{"0", "7", "-7", "10", "-9223372036854775809", "340282366920938463463374607431768211456"} {
		checkOne(t, s, num(s))
	}
	checkOne(t, "-0", num("0"))
	checkOne(t, `""`, text(""))
	checkOne(t, `"a\n\u0041\ud83d\ude00/\/"`, text("a\nA😀//"))
	checkOne(t, `"null"`, text("null"))
	checkOne(t, "[]", list())
	checkOne(t, "{}", object(""))
	checkOne(t, " [ ] ", list())
	checkOne(t, "\t{\r\n}\n", object(""))
	checkOne(t, "[1]", list(one))
	checkOne(t, "[1,2,1]", list(one, two, one))
	checkOne(t, "[[],{},[[]],[{}]]", list(list(), object(""), list(list()), list(object(""))))
	checkOne(t, `{"a":1}`, object("a", one))
	checkOne(t, `{"b":1,"a":2}`, object("a b", two, one))
	checkOne(t, `{"b":[1,{"c":2,"a":null}],"a":{"x":{}},"":""}`,
		api.Value{Kind: api.Object, Keys: []string{"", "a", "b"}, Items: []api.Value{text(""), object("x", object("")), list(one, object("a c", api.Value{}, two))}})
	checkOne(t, `{"é":1,"z":2,"Z":1,"\uD800\uDC00":2,"\uFFFF":1}`, object("Z z é \uFFFF \U00010000", one, two, one, one, two))
}

func TestP5_2BehindTheValue(t *testing.T) {
	for _, v := range []string{"1", "null", `"a"`, "[]", "{}", "[1,[2]]", `{"a":{"b":1}}`} {
		for _, more := range []string{"null", "false", "true", "1", `"b"`, "[", "]", "{", "}", ":", ",", "[1]", "]]", ", x", "2 x", "[ 1.5", repeated("[", 65), `{"a":1,"a":2}`} {
			refusesOne(t, v+" "+more, api.ErrMore, len(v)+1)
			refusesOne(t, v+"\r\n"+more+" ", api.ErrMore, len(v)+2)
		}
		refusesOne(t, v+" x", api.ErrWord, len(v)+1)
		refusesOne(t, v+" x ]", api.ErrWord, len(v)+1)
		refusesOne(t, v+" 1.5", api.ErrNumber, len(v)+1)
		refusesOne(t, v+" '", api.ErrByte, len(v)+1)
		refusesOne(t, v+" \"a\xff\"", api.ErrUTF, len(v)+3)
		refusesOne(t, v+` "a\q"`, api.ErrEscape, len(v)+3)
		refusesOne(t, v+` "a`, api.ErrQuote, len(v)+3)
	}
	refusesOne(t, "[1]]", api.ErrMore, 3)
	refusesOne(t, `"a""b"`, api.ErrMore, 3)
	refusesOne(t, "[]1", api.ErrMore, 2)
	refusesOne(t, "1-2", api.ErrNumber, 0) // one numeral, which is none
}

// tokensByKind is a token of each kind, by the kind's number.
func tokensByKind() []string {
	return []string{token.OpenObject: "{", token.CloseObject: "}", token.OpenArray: "[", token.CloseArray: "]", token.Colon: ":", token.Comma: ",", token.Null: "null", token.False: "false", token.True: "true", token.Number: "1", token.Text: `"b"`}
}

// place is what stands ahead, and which kinds of tokens may come then.
type place struct {
	ahead string
	may   []int
}

func placesOutside() []place {
	return []place{{"", begins()}, {"1 ", begins()}, {`"a" `, begins()}, {"[] ", begins()}, {`{"a":1} `, begins()}, {"1 [2] ", begins()}}
}

func placesInside() []place {
	nextItem, nextEntry := []int{token.Comma, token.CloseArray}, []int{token.Comma, token.CloseObject}
	return []place{
		{"[ ", append(begins(), token.CloseArray)}, {"[1, ", begins()}, {"[1, [], ", begins()},
		{"[1 ", nextItem}, {"[[] ", nextItem}, {"[1, {} ", nextItem}, {`["a" `, nextItem},
		{"{ ", []int{token.Text, token.CloseObject}}, {`{"a":1, `, []int{token.Text}}, {`{"a":1, "c":[2], `, []int{token.Text}},
		{`{"a" `, []int{token.Colon}}, {`{"a":1, "c" `, []int{token.Colon}},
		{`{"a": `, begins()}, {`{"a":1, "c": `, begins()},
		{`{"a":1 `, nextEntry}, {`{"a":{} `, nextEntry}, {`{"a":1, "c":"d" `, nextEntry},
	}
}

// begins are the kinds of tokens that begin a value.
func begins() []int {
	return []int{token.Null, token.False, token.True, token.Number, token.Text, token.OpenArray, token.OpenObject}
}

func TestP5_1EachTokenAtEachPlace(t *testing.T) {
	for kind, x := range tokensByKind() {
		if x == "" {
			continue
		}
		for _, p := range placesOutside() {
			checkPlace(t, p.ahead, x, slices.Contains(p.may, kind))
		}
		for _, p := range placesInside() {
			for _, outer := range []string{"", "1 ", "[", `{"x":`, `[1, {"x": [`, `[{}, [], `} {
				checkPlace(t, outer+p.ahead, x, slices.Contains(p.may, kind))
			}
		}
	}
}

// checkPlace holds whether a token may come behind what stands ahead, whatever comes behind it.
func checkPlace(t *testing.T, ahead, x string, may bool) {
	t.Helper()
	if may {
		if _, e, at := reader.Many(ahead + x); e != api.OK && e != api.ErrEnd {
			t.Errorf("Many(%q): %d, %d", ahead+x, e, at)
		}
		return
	}
	for _, behind := range []string{"", " ", " 1", " ]", " }", " x", " 1.5", " '", " \"a"} {
		refusesMany(t, ahead+x+behind, api.ErrToken, len(ahead))
	}
}

func TestP5_1Commas(t *testing.T) {
	for s, at := range map[string]int{
		"[,]": 1, "[,1]": 1, "[1,,2]": 3, "[1,2,]": 5, "[,": 1, "[[],,": 4, "[1,2 3]": 5, "[[] []]": 4, "[1[2]]": 2, `["a""b"]`: 4,
		"{,}": 1, `{,"a":1}`: 1, `{"a":1,,"b":2}`: 7, `{"a":1,"b":2,}`: 13, `{"a":1 "b":2}`: 7, `{"a":1"b":2}`: 6, `{"a":[]{}`: 7, `{"a":,}`: 5,
	} {
		refusesInside(t, s, api.ErrToken, at)
	}
	refuses(t, ",", api.ErrToken, 0)
	refuses(t, ",1", api.ErrToken, 0)
}

func TestP5_1Entries(t *testing.T) {
	for s, at := range map[string]int{
		`{"a"}`: 4, `{"a",`: 4, `{"a" "b"}`: 5, `{"a"::1}`: 5, `{"a":}`: 5, `{:1}`: 1, `{null:1}`: 1, `{true:1}`: 1, `{1}`: 1, `{[]:1}`: 1, `{{}:1}`: 1, `{"a":1:2}`: 6, `["a":1]`: 4, `{"a":"b":1}`: 8,
		`{"a":1]`: 6, `[1}`: 2, `{]`: 1, `[}`: 1, `{"a":1,]`: 7, `{"a":]`: 5, `{"a"]`: 4, `[1,}`: 3,
	} {
		refusesInside(t, s, api.ErrToken, at)
	}
}

// A document that ends ahead of its value's end, at each of its bytes.
func TestP5_1EarlyEnds(t *testing.T) {
	const s = `{"b": [1, -0, [], {}], "a": {"x": null, "y": [true, false]}, "c": "d"}`
	tokens, _, _ := token.Scan(s)
	for _, x := range tokens {
		for _, blank := range []string{"", " ", "\r\n"} {
			early := s[:x.At] + blank
			if x.At > 0 {
				refusesInside(t, early, api.ErrEnd, len(early))
			}
		}
	}
	for n := range len(s) + 1 {
		checkWords(t, s[:n])
		checkWords(t, "1 "+s[:n])
	}
}

func TestP5_1Faults(t *testing.T) {
	for _, row := range []struct {
		s  string
		e  api.Errno
		at int
	}{
		{"x", api.ErrWord, 0}, {"nul", api.ErrWord, 0}, {"1.5", api.ErrNumber, 0}, {"01", api.ErrNumber, 0}, {"-", api.ErrNumber, 0}, {"'", api.ErrByte, 0}, {"\x00", api.ErrByte, 0}, {"\xef\xbb\xbf1", api.ErrByte, 0},
		{`"`, api.ErrQuote, 1}, {`"ab`, api.ErrQuote, 3}, {"\"a\n\"", api.ErrControl, 2}, {"\"a\xff\"", api.ErrUTF, 2}, {`"a\q"`, api.ErrEscape, 2}, {`"a\ud800"`, api.ErrPair, 2},
	} {
		refusesInside(t, row.s, row.e, row.at)
		for _, ahead := range []string{"[", "[1,", "[1", "[ 1 ", "{", `{"a"`, `{"a":`, `{"a":1,`, `{"a":{},"b" `, "[[]", `{"a":[] `} {
			behind := row.s
			if strings.HasSuffix(ahead, "1") {
				behind = " " + behind // else it goes on with the numeral
			}
			refuses(t, ahead+behind, row.e, len(ahead+behind)-len(row.s)+row.at)
		}
		for _, v := range []string{"1", "[]", `{"a":1}`, `"x"`, "null"} {
			refusesOne(t, v+" "+row.s, row.e, len(v)+1+row.at)
			refusesMany(t, v+" "+row.s, row.e, len(v)+1+row.at)
		}
	}
}

func TestP5_1KeysTwice(t *testing.T) {
	for s, at := range map[string]int{
		`{"a":1,"a":1}`: 7, `{"a":1,"b":2,"a":3}`: 13, `{"b":1,"a":2,"b"`: 13, `{"":1,"":2}`: 6, `{"a":{"a":1},"a":2}`: 13, `{"a":{"a":1,"a":2}}`: 12, `{"a":[{"b":1,"b":2}]}`: 13, `{"c":1,"a":{},"b":[],"a":[]}`: 21,
		`{"a":1,"\u0061":2}`: 7, `{"\u0061":1,"a":2}`: 12, `{"\u00e9":1,"\u00E9":2}`: 12, `{"é":1,"\u00e9":2}`: 8, `{"/":1,"\/":2}`: 7, `{"\n":1,"\u000a":2}`: 8, `{"\ud83d\ude00":1,"😀":2}`: 18,
		`{"a":1,"a"`: 7, `{"a":1,"a",`: 7, `{"a":1,"a":x`: 7, `{"a":1,"a"'`: 7,
	} {
		refusesInside(t, s, api.ErrTwice, at)
	}
	one, two := num("1"), num("2")
	checkOne(t, `{"a":{"a":1},"b":{"a":2}}`, object("a b", object("a", one), object("a", two)))
	checkOne(t, `[{"a":1},{"a":2}]`, list(object("a", one), object("a", two)))
	checkOne(t, `{"a":[{"a":{"a":1}}]}`, object("a", list(object("a", object("a", one)))))
	checkOne(t, `{"b":{"a":1},"a":2}`, object("a b", two, object("a", one)))
	checkOne(t, `{"a":"a","A":"a","aa":"a"}`, object("A a aa", text("a"), text("a"), text("a")))
	checkOne(t, `{"é":1,"e\u0301":2}`, object("e\u0301 é", two, one)) // alike to the eye, other bytes
	checkOne(t, `["a","a"]`, list(text("a"), text("a")))
}

func TestP5_1Deep(t *testing.T) {
	for _, row := range []struct{ opens, closes string }{{"[", "]"}, {`{"a":`, "}"}, {`[{"a":`, "}]"}, {`{"a":[`, "]}"}, {`["x", null, `, "]"}, {`{"b":1, "a" : `, "}"}} {
		deep := strings.Count(row.closes, "]") + strings.Count(row.closes, "}")
		n := api.MaxDepth / deep
		ahead := repeated(row.opens, n)
		checkWords(t, repeated(row.opens, n)+"1"+repeated(row.closes, n))
		checkWords(t, repeated(row.opens, n-1)+"[]"+repeated(row.closes, n-1))
		v, e, at := reader.One(ahead + "1" + repeated(row.closes, n))
		if e != api.OK || at != 0 || value.Depth(v) != api.MaxDepth {
			t.Errorf("%d times %q: %d, %d", n, row.opens, e, at)
		}
		for _, more := range []string{"[", "{", "[]", "{}", "[1.5", "{x", "[[", "{{", "[}"} {
			refuses(t, ahead+more, api.ErrDeep, len(ahead))
			refuses(t, ahead+more+repeated(row.closes, n), api.ErrDeep, len(ahead))
		}
	}
	refuses(t, repeated("[", 65)+repeated("]", 65), api.ErrDeep, 64)
	refuses(t, repeated("[", 1<<20), api.ErrDeep, 64)
	side := repeated("[", 63) + "[],{},[1]" + repeated("]", 63)
	checkWords(t, side)
	checkWords(t, "["+side[1:len(side)-1]+","+side[1:len(side)-1]+"]")
	checkWords(t, repeated("[]", 200))
	checkWords(t, "["+repeated("[],", 200)+"{}]")
}

func TestP5_1WhichIsMetFirst(t *testing.T) {
	full := repeated("[", 64)
	for _, row := range []struct {
		s  string
		e  api.Errno
		at int
	}{
		{"[}1.5", api.ErrToken, 1}, {"[1.5}", api.ErrNumber, 1}, {"[1 x]", api.ErrWord, 3}, {"[1 2 x]", api.ErrToken, 3}, {"[x", api.ErrWord, 1}, {"[1, 2.5", api.ErrNumber, 4},
		{`{"a":1,"a" x`, api.ErrTwice, 7}, {`{"a":1 "a":2`, api.ErrToken, 7}, {`{"a":x,"a":1}`, api.ErrWord, 5}, {`{"a" 1,"a":1}`, api.ErrToken, 5}, {`{"a":1,"a`, api.ErrQuote, 9}, {`{"a":1,'a'`, api.ErrByte, 7},
		{full + "x", api.ErrWord, 64}, {full + "}", api.ErrToken, 64}, {full, api.ErrEnd, 64}, {full + "x[", api.ErrWord, 64}, {full + "[x", api.ErrDeep, 64},
		{full + "1[", api.ErrToken, 65}, {full + "1 {", api.ErrToken, 66}, {full + "][", api.ErrToken, 65}, {full + "],[[", api.ErrDeep, 67}, {full + "1,[", api.ErrDeep, 66}, // a bracket that can't stand there at all isn't too deep
		{repeated("[", 63) + "{[", api.ErrToken, 64}, {repeated("[", 63) + "{{", api.ErrToken, 64}, {repeated("[", 63) + `{"a"[`, api.ErrToken, 67}, {repeated("[", 63) + `{"a":1,"a":[`, api.ErrTwice, 70}, {repeated("[", 63) + `{"a":[`, api.ErrDeep, 68},
	} {
		refuses(t, row.s, row.e, row.at)
	}
	for _, row := range []struct {
		s        string
		one      api.Errno
		oneAt    int
		many     api.Errno
		manyAt   int
		complete int
	}{
		{"[1] ] x", api.ErrMore, 4, api.ErrToken, 4, 1}, {"[1] x ]", api.ErrWord, 4, api.ErrWord, 4, 1}, {"1 2 x", api.ErrMore, 2, api.ErrWord, 4, 2}, {"1 2 [", api.ErrMore, 2, api.ErrEnd, 5, 2}, {"1 " + full + "[", api.ErrMore, 2, api.ErrDeep, 66, 1}, {"] x", api.ErrToken, 0, api.ErrToken, 0, 0}, {"1 , x", api.ErrMore, 2, api.ErrToken, 2, 1},
	} {
		refusesOne(t, row.s, row.one, row.oneAt)
		refusesMany(t, row.s, row.many, row.manyAt)
		if got := len(slices.Collect(reader.Values(row.s))); got != row.complete {
			t.Errorf("Values(%q) gives %d values", row.s, got)
		}
	}
}

// All rows of a few tokens, and of what is none.
func TestAllShortRows(t *testing.T) {
	rows([]string{"[", "]", "{", "}", ":", ",", "1", `"a"`, "x"}, " ", 5, func(s string) { checkWords(t, s) })
	rows([]string{`{"a":`, `"b"`, ":", ",", "[", "]", "}", "null", "'"}, " ", 5, func(s string) { checkWords(t, s) })
	rows([]string{"{", `"a":1`, `"b":[`, `"\u0061"`, `:{`, ",", "]", "}"}, " ", 5, func(s string) { checkWords(t, s) })
	rows(tokensByKind()[1:], " ", 4, func(s string) { checkWords(t, s) })
}

// All texts of a few bytes, so that tokens stand side by side without a blank.
func TestAllShortTexts(t *testing.T) {
	var all []string
	for _, c := range "[]{}:,1- \"x." {
		all = append(all, string(c))
	}
	rows(all, "", 4, func(s string) { checkWords(t, s) })
}

func TestDrawnTexts(t *testing.T) {
	read, refused := 0, 0
	for _, s := range drawnTexts(5000) {
		checkWords(t, s)
		if readingOf(s).e == api.OK {
			read++
		} else {
			refused++
		}
	}
	if read < 3000 || refused < 3000 {
		t.Errorf("%d texts were read, %d refused: too few to tell", read, refused)
	}
}

// leftAt goes through a sequence up to a step (counted from 1), and counts how often it was called.
func leftAt(seq iter.Seq[api.Value], step int) ([]api.Value, int) {
	var got []api.Value
	called := 0
	seq(func(v api.Value) bool {
		called++
		got = append(got, v)
		return called < step
	})
	return got, called
}

func TestP5_3LeftAndAgain(t *testing.T) {
	texts := append(drawnTexts(300), "", " ", "1", "1 2 3", `1 [2] 3.5 4`, "1 ] 2", "]", "x", `{"a":1} [] {"a":1,"a":2} 5`, "1 [2", "1 2 3 "+repeated("[", 65))
	for _, s := range texts {
		var want []api.Value
		for _, span := range readingOf(s).spans {
			v, e, _ := reader.One(s[span[0]:span[1]])
			if e != api.OK {
				t.Fatalf("One(%q): %d", s[span[0]:span[1]], e)
			}
			want = append(want, v)
		}
		seq := reader.Values(s)
		if seq == nil {
			t.Fatalf("Values(%q) is nil", s)
		}
		for step := 1; step <= len(want)+1; step++ {
			most := min(step, len(want))
			if got, called := leftAt(seq, step); called != most || !slices.EqualFunc(got, want[:most], right) {
				t.Errorf("Values(%q) left at step %d: %v (called %d times)", s, step, got, called)
			}
			if got := slices.Collect(seq); !slices.EqualFunc(got, want, right) {
				t.Errorf("Values(%q) again: %v, want %v", s, got, want)
			}
		}
	}
}

func TestP5_3Examples(t *testing.T) {
	one := num("1")
	checkValues(t, "1 [2] 3.5 4", one, list(num("2")))
	checkValues(t, "1 ] 2", one)
	checkValues(t, "1 2 ,", one, num("2"))
	checkValues(t, "{} {", object(""))
	checkValues(t, "1'", one)
	checkValues(t, `1 {"a":1,"a":2} 3`, one)
	checkValues(t, "1 "+repeated("[", 65)+repeated("]", 65)+" 3", one)
	checkValues(t, "[1,2,3")
	checkValues(t, "[1,2,3 4] 5")
	checkValues(t, `"a" "b`, text("a"))
}

// Two loops over one sequence, one in the other, and one that is pulled, go each its own way.
func TestP5_3OneInTheOther(t *testing.T) {
	const s = `1 [2] {"a":3} x`
	want := []api.Value{num("1"), list(num("2")), object("a", num("3"))}
	seq := reader.Values(s)
	next, stop := iter.Pull(seq)
	defer stop()
	number := 0
	for v := range seq {
		if !right(v, want[number]) {
			t.Errorf("step %d is %v", number, v)
		}
		if got := slices.Collect(seq); !slices.EqualFunc(got, want, right) {
			t.Errorf("inside step %d: %v", number, got)
		}
		if w, ok := next(); !ok || !right(w, want[number]) {
			t.Errorf("pulled at %d: %v, %v", number, w, ok)
		}
		number++
	}
	if _, ok := next(); ok || number != len(want) {
		t.Errorf("%d steps, and one more is pulled: %v", number, ok)
	}
}

// A panic of the caller, in the midst of a loop, is the caller's: it isn't taken for a fault.
func TestP5_3APanicOfTheCaller(t *testing.T) {
	type mine struct {
		e  api.Errno
		at int
	}
	for _, given := range []any{"mine", api.ErrToken, mine{api.ErrEnd, 1}} {
		got := func() (caught any) {
			defer func() { caught = recover() }()
			for range reader.Values("1 2 3") {
				panic(given)
			}
			return nil
		}()
		if got != given {
			t.Errorf("a panic with %v comes out as %v", given, got)
		}
	}
}

func TestNoGoroutineIsLeft(t *testing.T) {
	texts := append(drawnTexts(20), "1 2 3", "[1", "1 x", "]", repeated("[", 65))
	before := runtime.NumGoroutine()
	for _, s := range texts {
		reader.One(s)
		reader.Many(s)
		seq := reader.Values(s)
		for range seq {
		}
		for range seq {
			break
		}
		func() {
			defer func() { recover() }()
			for range seq {
				panic("left by a panic")
			}
		}()
	}
	if after := runtime.NumGoroutine(); after > before {
		t.Errorf("%d goroutines more than before", after-before)
	}
}

// A value that is written in any order, with blanks, and its texts in several ways, is read as it was.
func TestP5_4Written(t *testing.T) {
	r := rand.New(rand.NewSource(54))
	for range 5000 {
		v := drawn(r, 4)
		for range 3 {
			checkOne(t, laid(written(v, r), r), v)
		}
	}
}

func TestP5_4BlanksPutIn(t *testing.T) {
	for _, s := range drawnTexts(500) {
		tokens, e, _ := token.Scan(s)
		if e != api.OK {
			continue
		}
		want, manyE, at := reader.Many(s)
		for _, blank := range []string{" ", "\t", "\n", "\r", "\r\n \t"} {
			for _, x := range append(tokens, api.Token{At: len(s)}) {
				got, e, gotAt := reader.Many(s[:x.At] + blank + s[x.At:])
				moved := at
				if manyE != api.OK && at >= x.At {
					moved += len(blank)
				}
				if !slices.EqualFunc(got, want, value.Same) || e != manyE || gotAt != moved {
					t.Errorf("Many(%q) with %q at %d: %v, %d, %d", s, blank, x.At, got, e, gotAt)
				}
			}
		}
	}
}

func TestP5_4EntriesInAnotherOrder(t *testing.T) {
	want := object("a b c", num("1"), list(object("x y", num("2"), num("3"))), api.Value{})
	entries := []string{`"a":1`, `"b":[{"y":3,"x":2}]`, `"c":null`}
	for _, order := range [][3]int{{0, 1, 2}, {0, 2, 1}, {1, 0, 2}, {1, 2, 0}, {2, 0, 1}, {2, 1, 0}} {
		checkOne(t, "{"+entries[order[0]]+","+entries[order[1]]+","+entries[order[2]]+"}", want)
	}
}

func TestP5_4TwoDocuments(t *testing.T) {
	texts := drawnTexts(700)
	for i, s := range texts {
		u := texts[(i*7+1)%len(texts)]
		first, e, _ := reader.Many(s)
		second, f, at := reader.Many(u)
		if e != api.OK {
			continue
		}
		for _, blank := range []string{" ", "\t", "\n", "\r"} {
			if f != api.OK {
				refusesMany(t, s+blank+u, f, len(s)+1+at)
				continue
			}
			checkMany(t, s+blank+u, append(slices.Clone(first), second...)...)
		}
	}
}

func TestP5_4OneAgainstMany(t *testing.T) {
	taken := 0
	for _, s := range append(drawnTexts(5000), "", " ", "1", "1 2", "[", "x") {
		v, e, _ := reader.One(s)
		l, f, _ := reader.Many(s)
		if (e == api.OK) != (f == api.OK && len(l) == 1) {
			t.Errorf("%q: One %d, Many %d with %d values", s, e, f, len(l))
		}
		if e == api.OK {
			taken++
			if !right(v, l[0]) {
				t.Errorf("%q: One %v, Many %v", s, v, l[0])
			}
		}
	}
	if taken < 1000 {
		t.Errorf("One takes only %d texts", taken)
	}
}

func TestP5_4WellShaped(t *testing.T) {
	for _, s := range drawnTexts(3000) {
		for v := range reader.Values(s) {
			if !value.Formed(v) || value.Depth(v) > api.MaxDepth {
				t.Errorf("Values(%q) gives %v", s, v)
			}
		}
	}
}

// places counts how many lists have a place in them, their spare room too.
type places struct {
	items map[*api.Value]int
	keys  map[*string]int
}

func (p places) add(items []api.Value, keys []string) {
	items, keys = items[:cap(items)], keys[:cap(keys)]
	for i := range items {
		p.items[&items[i]]++
	}
	for i := range keys {
		p.keys[&keys[i]]++
	}
}

func (p places) addParts(v api.Value) {
	p.add(v.Items, v.Keys)
	for _, item := range v.Items {
		p.addParts(item)
	}
}

// shared is how many places are in more than one list.
func (p places) shared() int {
	n := 0
	for _, many := range p.items {
		n += many - 1
	}
	for _, many := range p.keys {
		n += many - 1
	}
	return n
}

// scribble writes into all lists of a value, and into their spare room.
func scribble(v api.Value) {
	for _, item := range v.Items {
		scribble(item)
	}
	items, keys := v.Items[:cap(v.Items)], v.Keys[:cap(v.Keys)]
	for i := range items {
		items[i] = text("changed")
	}
	for i := range keys {
		keys[i] = "changed"
	}
}

func memoryTexts() []string {
	return []string{`[1,2,3]`, `{"a":1,"b":[1,2,3],"c":{"d":[[],{},[1]],"e":[5,6,7,8,9]}}`, `[[1,2,3],[1,2,3],{"a":1},{"a":1},{"a":1,"b":2,"c":3}]`, repeated("[", 64) + repeated("]", 64), "[" + repeated(`{"a":[1]},`, 100) + "0]"}
}

// No two lists of answers share a place: lists of one answer, of two calls, and of two times that Values is gone through.
func TestMemoryOfTheirOwn(t *testing.T) {
	for _, s := range memoryTexts() {
		p := places{map[*api.Value]int{}, map[*string]int{}}
		seq := reader.Values(s + s)
		var kept []api.Value // so that no place is used anew
		for range 2 {
			v, _, _ := reader.One(s)
			l, _, _ := reader.Many(s + s)
			p.add(l, nil)
			kept = slices.Concat(kept, l, []api.Value{v}, slices.Collect(seq))
		}
		for _, v := range kept {
			p.addParts(v)
		}
		if len(kept) != 10 || len(p.items) == 0 || p.shared() != 0 {
			t.Errorf("%d values of %q share %d of %d places", len(kept), s, p.shared(), len(p.items)+len(p.keys))
		}
	}
}

// What an answer is changed to, no other answer shows.
func TestMemoryIsChanged(t *testing.T) {
	for _, s := range memoryTexts() {
		want := said(s)
		seq := reader.Values(s + " " + s)
		first, _, _ := reader.One(s)
		second, _, _ := reader.One(s)
		l, _, _ := reader.Many(s + " " + s)
		scribble(first)
		scribble(l[0])
		grown := append(l[:1], text("grown"))
		scribble(list(grown...))
		for v := range seq {
			scribble(v)
		}
		again := slices.Collect(seq)
		for i, v := range append(again, second) {
			if !value.Formed(v) || !says(v, want) {
				t.Errorf("%q: answer %d is %v", s, i, v)
			}
		}
		checkWords(t, s+" "+s)
	}
	l, _, _ := reader.Many("[1,2,3] [4,5,6]")
	scribble(l[0])
	if !right(l[1], list(num("4"), num("5"), num("6"))) {
		t.Errorf("the second value is %v", l[1])
	}
}

// Long texts are read, wide ones too.
func TestLongTexts(t *testing.T) {
	const n = 1 << 18
	l, e, at := reader.Many(repeated("1 ", n))
	if len(l) != n || e != api.OK || at != 0 {
		t.Errorf("%d values: %d, %d, %d", n, len(l), e, at)
	}
	v, e, at := reader.One("[" + repeated(`{"a":1},`, n) + "0]")
	if len(v.Items) != n+1 || e != api.OK || at != 0 {
		t.Errorf("%d items: %d, %d, %d", n, len(v.Items), e, at)
	}
	refusesMany(t, repeated("1 ", n)+"]", api.ErrToken, 2*n)
	digits := "1" + repeated("0", n)
	checkOne(t, digits, num(digits))
	checkOne(t, `"`+digits+`"`, text(digits))
}

// A wide object, deep inside others, with its keys from the last to the first.
func TestLongObjects(t *testing.T) {
	const n = 1 << 16
	var s strings.Builder
	for i := range n {
		key := []byte{'a' + byte(i>>12), 'a' + byte(i>>8&15), 'a' + byte(i>>4&15), 'a' + byte(i&15)}
		for j := range key {
			key[j] = 'a' + 'p' - key[j]
		}
		s.WriteString(`"` + string(key) + `":0,`)
	}
	inner := "{" + s.String() + `"":1}`
	v, e, at := reader.One(repeated(`{"x":`, 63) + inner + repeated("}", 63))
	for range 63 {
		v = v.Items[0]
	}
	if len(v.Items) != n+1 || e != api.OK || at != 0 || v.Items[0].Num != "1" || !value.Formed(v) {
		t.Errorf("%d keys: %d, %d, %d", n, len(v.Items), e, at)
	}
	refusesOne(t, "{"+s.String()+`"aaaa":1}`, api.ErrTwice, 1+s.Len())
}

func TestSameness(t *testing.T) {
	texts := drawnTexts(100)
	seqs := make([]iter.Seq[api.Value], len(texts))
	for i, s := range texts {
		seqs[i] = reader.Values(s)
	}
	var all sync.WaitGroup
	for range 8 {
		all.Go(func() {
			for i, s := range texts {
				checkWords(t, s)
				if got, want := slices.Collect(seqs[i]), readingOf(s).spans; !slices.EqualFunc(got, want, spanSays(s)) {
					t.Errorf("Values(%q) gives %v", s, got)
				}
			}
		})
	}
	all.Wait()
}

func FuzzAny(f *testing.F) {
	for _, s := range append(drawnTexts(50), "", "   ", `{"b": [1, -0], "a": null}`, "1 2", "[1] x", "[1,]", `{"a" 1}`, `{"a":1,"\u0061":2}`, `{"a":{"a":1}}`, repeated("[", 65), "[}1.5", `1 "x"[]`, "1 ] 2") {
		f.Add(s)
	}
	f.Fuzz(func(t *testing.T, s string) { checkWords(t, s) })
}
