package prim_test

import (
	"strings"
	"testing"
	"unicode/utf8"

	"hallmark/api"
	"hallmark/specimen"
)

func TestP21_2Examples(t *testing.T) {
	checkRows(t, [][]string{
		{"5", "-5", "length"}, {"2", `"aé"`, "length"}, {"3", `"aé"`, "utf8bytelength"}, {"!length", "true", "length"},
		{`["a","b"]`, `{"b":1,"a":2}`, "keys"}, {"[0,1]", "[7,7]", "keys"}, {"!keys", `"x"`, "keys"},
		{"true", `{"a":1}`, "has", `"a"`}, {"false", "[1]", "has", "1"}, {"!has", "[1]", "has", `"a"`},
		{"true", `"foobar"`, "contains", `"bar"`}, {"true", `["abc",1]`, "contains", `["b"]`}, {"true", `{"a":[1,2]}`, "contains", `{"a":[2]}`}, {"!contains", "1", "contains", `"1"`}, {"false", "true", "contains", "false"},
		{`"[1,\"a\",null]"`, `[1,"a",null]`, "tostring"}, {`"x"`, `"x"`, "tostring"}, {"!tonumber", `"007"`, "tonumber"}, {"-12", `"-12"`, "tonumber"},
		{"!fromjson", `"[1"`, "fromjson"}, {"[1]", `"[1]"`, "fromjson"},
		{`"aé"`, "[97,233]", "implode"}, {"!implode", "[55296]", "implode"}, {"[97,98]", `"ab"`, "explode"},
		{`"c"`, `"abc"`, "ltrimstr", `"ab"`}, {`"abc"`, `"abc"`, "ltrimstr", "1"}, {"5", "5", "rtrimstr", `"a"`},
		{`"a-1--true"`, `["a",1,null,true]`, "join", `"-"`}, {"!join", "[[]]", "join", `"-"`}, {`""`, "[]", "join", `","`},
		{"[1,3]", `"banana"`, "indices", `"ana"`}, {"[0,2]", "[1,2,1,2]", "indices", "[1,2]"}, {"[0,2]", "[1,2,1]", "indices", "1"}, {"[]", "[1]", "indices", "[]"},
		{`"cba"`, `"abc"`, "reverse"}, {"[]", "null", "reverse"}, {"[1,3]", "[3,1]", "sort"}, {`["y","x"]`, `["x","y"]`, "_sort_by", "[2,1]"},
		{`[["x","z"],["y"]]`, `["x","y","z"]`, "_group_by", "[1,2,1]"}, {`["y","x"]`, `["x","y"]`, "_sort_by", "[1]"}, {"!group_by", `["x"]`, "_group_by", "1"}, {`"y"`, `["x","y"]`, "_max_by", "[1,1]"},
		{"6", "[1,2,3]", "add"}, {"!add", `[1,"a"]`, "add"}, {"null", "[]", "add"}, {"null", "null", "add"},
		{"[1,2,3]", "[1,[2,[3]],[]]", "flatten"}, {"[[1,2],[null,3]]", "[[1],[2,3]]", "transpose"},
		{"1", `{"a":1}`, "getpath", `["a"]`}, {"!getpath", "1", "getpath", `["a"]`}, {`{"a":1}`, "null", "setpath", `["a"]`, "1"}, {"[2]", "[1,2,3]", "delpaths", "[[0],[-1]]"},
	})
}

func TestP21_2Length(t *testing.T) {
	checkRows(t, [][]string{
		{"0", "null", "length"}, {"0", "0", "length"}, {"1", "-1", "length"}, {"7", "7", "length"}, {"9223372036854775808", "-9223372036854775808", "length"}, {"123456789012345678901234567890", "-123456789012345678901234567890", "length"},
		{"0", `""`, "length"}, {"1", `"😀"`, "length"}, {"4", `"aé😀\u0000"`, "length"}, {"2", `"e\u0301"`, "length"}, {"0", "[]", "length"}, {"1", "[[1,2,3]]", "length"}, {"2", "[null,null]", "length"}, {"0", "{}", "length"}, {"2", `{"a":[1,2],"b":null}`, "length"}, {"!length", "false", "length"},
		{"0", `""`, "utf8bytelength"}, {"4", `"😀"`, "utf8bytelength"}, {"8", `"aé😀\u0000"`, "utf8bytelength"}, {"!utf8bytelength", "1", "utf8bytelength"}, {"!utf8bytelength", "null", "utf8bytelength"}, {"!utf8bytelength", `["a"]`, "utf8bytelength"},
		{"0", "0", "abs"}, {"5", "-5", "abs"}, {"5", "5", "abs"}, {"9223372036854775808", "-9223372036854775808", "abs"}, {"100000000000000000000", "-100000000000000000000", "abs"}, {"!abs", "null", "abs"}, {"!abs", `"-5"`, "abs"}, {"!abs", "[-5]", "abs"},
	})
}

func TestP21_2OfAny(t *testing.T) {
	checkRows(t, [][]string{
		{"true", "null", "not"}, {"true", "false", "not"}, {"false", "true", "not"}, {"false", "0", "not"}, {"false", `""`, "not"}, {"false", "[]", "not"}, {"false", "{}", "not"}, {"false", "[null]", "not"},
		{`"null"`, "null", "type"}, {`"boolean"`, "false", "type"}, {`"boolean"`, "true", "type"}, {`"number"`, "-0", "type"}, {`"string"`, `"null"`, "type"}, {`"array"`, "[]", "type"}, {`"object"`, "{}", "type"},
		{"[null]", "null", "toarray"}, {"[]", "[]", "toarray"}, {"[1,[2]]", "[1,[2]]", "toarray"}, {"[[]]", "[[]]", "toarray"}, {`[{"a":[1]}]`, `{"a":[1]}`, "toarray"}, {`["a"]`, `"a"`, "toarray"}, {"[false]", "false", "toarray"},
	})
}

func TestP21_2Keys(t *testing.T) {
	checkRows(t, [][]string{
		{"[]", "[]", "keys"}, {"[]", "{}", "keys"}, {"[0]", "[null]", "keys"}, {"[0,1,2,3,4,5,6,7,8,9,10]", "[1,1,1,1,1,1,1,1,1,1,[5,6]]", "keys"}, {`["","Z","a","ab","é"]`, `{"é":1,"ab":2,"a":3,"Z":4,"":5}`, "keys"}, {`["a"]`, `{"a":{"b":1}}`, "keys"}, {"!keys", "null", "keys"}, {"!keys", "3", "keys"}, {"!keys", "true", "keys"},
		{"true", `{"":1}`, "has", `""`}, {"false", `{"a":1}`, "has", `""`}, {"true", `{"a":null}`, "has", `"a"`}, {"false", `{"a":{"b":1}}`, "has", `"b"`}, {"true", `{"a":1,"b":2,"c":3}`, "has", `"c"`}, {"false", `{"a":1,"c":3}`, "has", `"b"`}, {"false", `{"b":1}`, "has", `"a"`}, {"false", `{"b":1}`, "has", `"c"`}, {"false", "{}", "has", `"a"`}, {"true", `{"é":1}`, "has", `"é"`},
		{"false", "[]", "has", "0"}, {"true", "[null]", "has", "0"}, {"false", "[null]", "has", "-1"}, {"true", "[1,2,3]", "has", "2"}, {"false", "[1,2,3]", "has", "3"}, {"false", "[1,2,3]", "has", "-3"}, {"false", "[1]", "has", "9223372036854775807"}, {"false", "[1]", "has", "9223372036854775808"}, {"false", "[1]", "has", "18446744073709551616"}, {"false", "[1]", "has", "4294967296"}, {"false", "[1]", "has", "-9223372036854775809"}, {"false", "[1]", "has", "-18446744073709551616"},
		{"!has", `{"0":1}`, "has", "0"}, {"!has", "[1]", "has", "null"}, {"!has", "null", "has", `"a"`}, {"!has", "null", "has", "0"}, {"!has", `"abc"`, "has", "0"}, {"!has", `"abc"`, "has", `"a"`}, {"!has", "{}", "has", "[]"}, {"!has", "[1]", "has", "[0]"}, {"!has", "1", "has", "0"},
	})
	for _, n := range specimen.Far() {
		check(t, "has", list(make([]api.Value, 300)...), num(n))
	}
	for n := -5; n < 8; n++ {
		check(t, "has", list(make([]api.Value, 4)...), whole(n))
	}
}

func TestP21_2Contains(t *testing.T) {
	checkRows(t, [][]string{
		{"true", "null", "contains", "null"}, {"!contains", "null", "contains", "false"}, {"true", "true", "contains", "true"}, {"true", "false", "contains", "false"}, {"false", "false", "contains", "true"}, {"!contains", "false", "contains", "null"}, {"!contains", "true", "contains", "1"},
		{"true", "12", "contains", "12"}, {"false", "12", "contains", "1"}, {"false", "-1", "contains", "1"}, {"true", "99999999999999999999", "contains", "99999999999999999999"},
		{"true", `"abc"`, "contains", `""`}, {"true", `""`, "contains", `""`}, {"false", `""`, "contains", `"a"`}, {"true", `"abc"`, "contains", `"abc"`}, {"false", `"abc"`, "contains", `"ac"`}, {"false", `"abc"`, "contains", `"abcd"`}, {"true", `"aé😀"`, "contains", `"é"`}, {"false", `"ABC"`, "contains", `"b"`},
		{"true", "[]", "contains", "[]"}, {"true", "[1]", "contains", "[]"}, {"false", "[]", "contains", "[1]"}, {"true", "[1,2]", "contains", "[2,1]"}, {"true", "[1]", "contains", "[1,1,1]"}, {"false", "[1,2]", "contains", "[1,3]"}, {"false", "[1,2]", "contains", "[3,1]"}, {"true", `["foobar","baz"]`, "contains", `["bar","ba"]`}, {"false", `["bar"]`, "contains", `["foobar"]`}, {"true", "[[1,2],[3]]", "contains", "[[2],[3],[]]"}, {"false", "[[1,2],[3]]", "contains", "[[1,3]]"}, {"false", "[[1]]", "contains", "[1]"}, {"false", "[1]", "contains", "[[1]]"}, {"false", "[1]", "contains", `["1"]`}, {"false", `["1"]`, "contains", "[1]"}, {"false", "[true]", "contains", "[false]"}, {"true", "[false,true]", "contains", "[true]"}, {"true", "[null]", "contains", "[null]"}, {"false", "[1]", "contains", "[null]"}, {"true", `[{"a":1,"b":2}]`, "contains", `[{"a":1},{"b":2},{}]`}, {"false", `[{"a":1},{"b":2}]`, "contains", `[{"a":1,"b":2}]`},
		{"true", "{}", "contains", "{}"}, {"true", `{"a":1}`, "contains", "{}"}, {"false", "{}", "contains", `{"a":null}`}, {"true", `{"a":"foobar","b":2}`, "contains", `{"a":"oba"}`}, {"false", `{"a":"foobar"}`, "contains", `{"a":1}`}, {"false", `{"a":1}`, "contains", `{"b":1}`}, {"true", `{"a":{"b":{"c":[1,2]}},"z":null}`, "contains", `{"a":{"b":{"c":[2]}}}`}, {"false", `{"a":{"b":1}}`, "contains", `{"b":1}`}, {"false", `{"a":1,"b":2}`, "contains", `{"a":1,"b":3}`}, {"false", `{"a":1,"b":2}`, "contains", `{"a":1,"b":2,"c":3}`}, {"true", `{"a":[],"b":2}`, "contains", `{"a":[],"b":2}`},
		{"!contains", "[1]", "contains", "1"}, {"!contains", "{}", "contains", "[]"}, {"!contains", `"a"`, "contains", "null"}, {"!contains", `["a"]`, "contains", `"a"`},
	})
}

func TestP21_2Texts(t *testing.T) {
	checkRows(t, [][]string{
		{`"null"`, "null", "tostring"}, {`"true"`, "true", "tostring"}, {`"-5"`, "-5", "tostring"}, {`""`, `""`, "tostring"}, {`"a\nb"`, `"a\nb"`, "tostring"}, {`"[]"`, "[]", "tostring"}, {`"{\"a\":[null,\"x\\n\"]}"`, `{"a": [null, "x\n"]}`, "tostring"}, {`"\"1\""`, `"\"1\""`, "tostring"},
		{`"null"`, "null", "tojson"}, {`"\"\""`, `""`, "tojson"}, {`"\"a\\nb\\\"\""`, `"a\nb\""`, "tojson"}, {`"\"é\""`, `"é"`, "tojson"}, {`"[1,\"a\",null]"`, `[1,"a",null]`, "tojson"}, {`"{\"a\":1,\"b\":2}"`, `{"b":2,"a":1}`, "tojson"}, {`"-7"`, "-7", "tojson"},
		{"0", "0", "tonumber"}, {"-7", "-7", "tonumber"}, {"123456789012345678901234567890", "123456789012345678901234567890", "tonumber"}, {"0", `"0"`, "tonumber"}, {"10", `"10"`, "tonumber"}, {"-123456789012345678901234567890", `"-123456789012345678901234567890"`, "tonumber"},
		{"!tonumber", `""`, "tonumber"}, {"!tonumber", `"-"`, "tonumber"}, {"!tonumber", `"-0"`, "tonumber"}, {"!tonumber", `"00"`, "tonumber"}, {"!tonumber", `"+1"`, "tonumber"}, {"!tonumber", `" 1"`, "tonumber"}, {"!tonumber", `"1 "`, "tonumber"}, {"!tonumber", `"1\n"`, "tonumber"}, {"!tonumber", `"1.0"`, "tonumber"}, {"!tonumber", `"1e3"`, "tonumber"}, {"!tonumber", `"0x1"`, "tonumber"}, {"!tonumber", `"--1"`, "tonumber"}, {"!tonumber", `"-01"`, "tonumber"}, {"!tonumber", `"１"`, "tonumber"}, {"!tonumber", `"a"`, "tonumber"}, {"!tonumber", "null", "tonumber"}, {"!tonumber", "true", "tonumber"}, {"!tonumber", "[1]", "tonumber"}, {"!tonumber", `{"a":1}`, "tonumber"},
		{"null", `"null"`, "fromjson"}, {"0", `"-0"`, "fromjson"}, {"-7", `" -7\n"`, "fromjson"}, {`"a"`, `"\"a\""`, "fromjson"}, {`{"a":[1,{}],"b":null}`, `"{\"b\": null, \"a\": [1, {}]}"`, "fromjson"}, {`"é😀"`, `"\"\\u00e9\\ud83d\\ude00\""`, "fromjson"},
		{"!fromjson", `""`, "fromjson"}, {"!fromjson", `" "`, "fromjson"}, {"!fromjson", `"1 2"`, "fromjson"}, {"!fromjson", `"1.5"`, "fromjson"}, {"!fromjson", `"nul"`, "fromjson"}, {"!fromjson", `"[1,]"`, "fromjson"}, {"!fromjson", `"{\"a\":1,\"a\":2}"`, "fromjson"}, {"!fromjson", `"{a:1}"`, "fromjson"}, {"!fromjson", `"\"\\ud800\""`, "fromjson"}, {"!fromjson", `"01"`, "fromjson"}, {"!fromjson", "1", "fromjson"}, {"!fromjson", "null", "fromjson"}, {"!fromjson", `["1"]`, "fromjson"}, {"!fromjson", `{}`, "fromjson"},
	})
	for _, deep := range []int{63, 64, 65, 66} {
		in := text(strings.Repeat("[", deep) + strings.Repeat("]", deep))
		if got := do("fromjson", in); got.Ok != (deep <= 64) {
			t.Errorf("arrays nested %d deep: %s", deep, short(got.Told()))
		}
		check(t, "fromjson", in)
	}
}

func TestP21_2Runes(t *testing.T) {
	checkRows(t, [][]string{
		{`""`, `""`, "ascii_downcase"}, {`"abcxyz@[{é0"`, `"ABCXYZ@[{é0"`, "ascii_downcase"}, {`"aÄz"`, `"AÄZ"`, "ascii_downcase"}, {"!ascii_downcase", "1", "ascii_downcase"}, {"!ascii_downcase", `["A"]`, "ascii_downcase"}, {"!ascii_downcase", "null", "ascii_downcase"},
		{`""`, `""`, "ascii_upcase"}, {"\"ABCXYZ@[`{é0\"", `"abcxyz@[\u0060{é0"`, "ascii_upcase"}, {`"AäZß"`, `"aäzß"`, "ascii_upcase"}, {"!ascii_upcase", "1", "ascii_upcase"}, {"!ascii_upcase", `{"a":"a"}`, "ascii_upcase"}, {"!ascii_upcase", "false", "ascii_upcase"},
		{"[]", `""`, "explode"}, {"[0,233,128512,65533,1114111]", `"\u0000é😀\ufffd\udbff\udfff"`, "explode"}, {"[101,769]", `"e\u0301"`, "explode"}, {"!explode", "null", "explode"}, {"!explode", "[97]", "explode"}, {"!explode", "97", "explode"},
		{`""`, "[]", "implode"}, {"\"\\u0000\\u007fé😀\ufffd\"", "[0,127,233,128512,65533]", "implode"}, {"\"\ud7ff\ue000\"", "[55295,57344]", "implode"}, {"\"\U0010ffff\uffff\"", "[1114111,65535]", "implode"},
		{"!implode", "[-1]", "implode"}, {"!implode", "[55295,55296]", "implode"}, {"!implode", "[57343]", "implode"}, {"!implode", "[56320]", "implode"}, {"!implode", "[1114112]", "implode"}, {"!implode", "[97,4294967393]", "implode"}, {"!implode", "[18446744073709551713]", "implode"}, {"!implode", "[9223372036854775807]", "implode"}, {"!implode", "[-9223372036854775808]", "implode"}, {"!implode", "[-4294967199]", "implode"}, {"!implode", "[99999999999999999999]", "implode"},
		{"!implode", `["a"]`, "implode"}, {"!implode", `["97"]`, "implode"}, {"!implode", "[97,null]", "implode"}, {"!implode", "[[97]]", "implode"}, {"!implode", "[false]", "implode"}, {"!implode", "97", "implode"}, {"!implode", "null", "implode"}, {"!implode", `"ab"`, "implode"}, {"!implode", `{"a":97}`, "implode"},
	})
	for _, n := range specimen.Far() {
		check(t, "implode", list(num("97"), num(n)))
	}
	for _, r := range []int{0, 127, 128, 2047, 2048, 55295, 55296, 56319, 56320, 57343, 57344, 65533, 65535, 65536, 1114111, 1114112} {
		for near := r - 2; near <= r+2; near++ {
			check(t, "implode", list(whole(near)))
			if got := do("explode", text(string(rune(near)))); utf8.ValidRune(rune(near)) && !alike(got, is(list(whole(near)))) {
				t.Errorf("explode of the rune %d = %s", near, got.Told())
			}
		}
	}
}

func TestP21_2Ends(t *testing.T) {
	checkRows(t, [][]string{
		{"true", `""`, "startswith", `""`}, {"true", `"abc"`, "startswith", `""`}, {"true", `"abc"`, "startswith", `"ab"`}, {"true", `"abc"`, "startswith", `"abc"`}, {"false", `"abc"`, "startswith", `"abcd"`}, {"false", `"abc"`, "startswith", `"bc"`}, {"false", `""`, "startswith", `"a"`}, {"true", `"éa"`, "startswith", `"é"`}, {"!startswith", `"1"`, "startswith", "1"}, {"!startswith", "null", "startswith", `""`}, {"!startswith", `["a"]`, "startswith", `["a"]`}, {"!startswith", `"a"`, "startswith", "null"},
		{"true", `""`, "endswith", `""`}, {"true", `"abc"`, "endswith", `""`}, {"true", `"abc"`, "endswith", `"bc"`}, {"true", `"abc"`, "endswith", `"abc"`}, {"false", `"abc"`, "endswith", `"zabc"`}, {"false", `"abc"`, "endswith", `"ab"`}, {"false", `""`, "endswith", `"a"`}, {"true", `"aé"`, "endswith", `"é"`}, {"!endswith", `"1"`, "endswith", "1"}, {"!endswith", "1", "endswith", `"1"`}, {"!endswith", `[1,2]`, "endswith", `[2]`}, {"!endswith", `"a"`, "endswith", "{}"},
		{`"abc"`, `"abc"`, "ltrimstr", `""`}, {`""`, `"abc"`, "ltrimstr", `"abc"`}, {`"abc"`, `"abc"`, "ltrimstr", `"bc"`}, {`"abc"`, `"abc"`, "ltrimstr", `"abcd"`}, {`"aa"`, `"aaa"`, "ltrimstr", `"a"`}, {`"a"`, `"éa"`, "ltrimstr", `"é"`}, {`"1"`, `"1"`, "ltrimstr", "1"}, {"null", "null", "ltrimstr", `""`}, {`[["a"]]`, `[["a"]]`, "ltrimstr", `"a"`}, {`["a"]`, `["a"]`, "ltrimstr", `["a"]`}, {`{"a":[1]}`, `{"a":[1]}`, "ltrimstr", "null"}, {"true", "true", "ltrimstr", `"t"`}, {`"a"`, `"a"`, "ltrimstr", "null"},
		{`"abc"`, `"abc"`, "rtrimstr", `""`}, {`""`, `"abc"`, "rtrimstr", `"abc"`}, {`"abc"`, `"abc"`, "rtrimstr", `"ab"`}, {`"a"`, `"abc"`, "rtrimstr", `"bc"`}, {`"abc"`, `"abc"`, "rtrimstr", `"zabc"`}, {`"aa"`, `"aaa"`, "rtrimstr", `"a"`}, {`"a"`, `"aé"`, "rtrimstr", `"é"`}, {`"1"`, `"1"`, "rtrimstr", "1"}, {"null", "null", "rtrimstr", `""`}, {`["a"]`, `["a"]`, "rtrimstr", `"a"`}, {`{"a":[1]}`, `{"a":[1]}`, "rtrimstr", `{"a":[1]}`}, {"false", "false", "rtrimstr", `"e"`}, {"-10", "-10", "rtrimstr", `"0"`},
	})
}

func TestP21_2SplitJoin(t *testing.T) {
	checkRows(t, [][]string{
		{"[]", `""`, "split", `","`}, {"[]", `""`, "split", `""`}, {`["a","é","😀"]`, `"aé😀"`, "split", `""`}, {`["a","","b"]`, `"a,,b"`, "split", `","`}, {`["","a"]`, `"aaa"`, "split", `"aa"`}, {`["",""]`, `"abc"`, "split", `"abc"`}, {`["abc"]`, `"abc"`, "split", `"x"`}, {`["","a",""]`, `",a,"`, "split", `","`}, {`["a","b"]`, `"a, b"`, "split", `", "`}, {"!split", `"a"`, "split", "null"}, {"!split", "null", "split", `","`}, {"!split", "1", "split", "1"}, {"!split", `["a"]`, "split", `["a"]`}, {"!split", `"1"`, "split", "1"},
		{`""`, "[]", "join", `""`}, {`"a"`, `["a"]`, "join", `","`}, {`"a,b"`, `["a","b"]`, "join", `","`}, {`"ab"`, `["a","b"]`, "join", `""`}, {`""`, "[null]", "join", `","`}, {`","`, "[null,null]", "join", `","`}, {`"false;-12;true;;x"`, `[false,-12,true,null,"x"]`, "join", `";"`}, {`"é--😀--"`, `["é","😀",""]`, "join", `"--"`}, {`"null"`, `["null"]`, "join", `","`}, {`"\"a\""`, `["\"a\""]`, "join", `","`},
		{"!join", `["a",["b"]]`, "join", `","`}, {"!join", `[{}]`, "join", `","`}, {"!join", `[null,1,{}]`, "join", `","`}, {"!join", `["a"]`, "join", "null"}, {"!join", `["a"]`, "join", "1"}, {"!join", "[]", "join", "[]"}, {"!join", `"ab"`, "join", `","`}, {"!join", "null", "join", `","`}, {"!join", `{"a":"b"}`, "join", `","`}, {"!join", "1", "join", `","`},
	})
}

func TestP21_2Indices(t *testing.T) {
	checkRows(t, [][]string{
		{"null", "null", "indices", "null"}, {"null", "null", "indices", `"a"`}, {"null", "null", "indices", "[1]"}, {"null", "null", "indices", "{}"},
		{"[]", `""`, "indices", `""`}, {"[]", `"abc"`, "indices", `""`}, {"[]", `""`, "indices", `"a"`}, {"[0]", `"abc"`, "indices", `"abc"`}, {"[]", `"abc"`, "indices", `"abcd"`}, {"[0,1,2]", `"aaa"`, "indices", `"a"`}, {"[0,1]", `"aaa"`, "indices", `"aa"`}, {"[1,3]", `"éaéa"`, "indices", `"a"`}, {"[0,2]", `"😀b😀b"`, "indices", `"😀b"`}, {"[]", `"abc"`, "indices", `"ac"`},
		{"[]", "[]", "indices", "[]"}, {"[]", "[]", "indices", "1"}, {"[]", "[]", "indices", "[1]"}, {"[0]", "[1]", "indices", "[1]"}, {"[]", "[1]", "indices", "[1,2]"}, {"[0,1]", "[1,1,1]", "indices", "[1,1]"}, {"[0,1,2]", "[1,1,1]", "indices", "1"}, {"[0,5]", "[1,2,1,2,3,1,2,1]", "indices", "[1,2,1]"}, {"[0,2,4]", "[1,2,1,2,1,2,1]", "indices", "[1,2,1]"}, {"[1]", "[1,1,2,1]", "indices", "[1,2]"}, {"[1,4]", "[1,1,2,1,1,2]", "indices", "[1,2]"}, {"[3]", "[1,2,1,1,2,1,3]", "indices", "[1,2,1,3]"}, {"[2]", "[1,2,1,2,1,3]", "indices", "[1,2,1,3]"}, {"[]", "[1,2,3]", "indices", "[1,3]"}, {"[]", "[1,2,3]", "indices", "[2,1]"},
		{"[1]", "[1,[1],1]", "indices", "[[1]]"}, {"[0,2]", "[[1],1,[1]]", "indices", "[[1]]"}, {"[1]", "[[1],[],1]", "indices", "[[]]"}, {"[0]", `["a","ab"]`, "indices", `"a"`}, {"[1,3]", "[1,null,2,null]", "indices", "null"}, {"[0]", "[false,true]", "indices", "false"}, {"[1]", `[{"a":1},{"a":2}]`, "indices", `{"a":2}`}, {"[0]", `[{"a":1}]`, "indices", `[{"a":1}]`}, {"[]", `["1"]`, "indices", "1"}, {"[0,1]", "[99999999999999999999,99999999999999999999]", "indices", "99999999999999999999"},
		{"!indices", `"1"`, "indices", "1"}, {"!indices", `"abc"`, "indices", "null"}, {"!indices", `"abc"`, "indices", `["a"]`}, {"!indices", "1", "indices", "1"}, {"!indices", "true", "indices", "true"}, {"!indices", `{"a":1}`, "indices", `"a"`}, {"!indices", "{}", "indices", "{}"}, {"!indices", "false", "indices", "null"},
	})
}

// Rows of two items and parts of them: each row of up to eight of them against each part of up to four.
func TestP21_2IndicesAll(t *testing.T) {
	rows := func(most int) [][]api.Value {
		out := [][]api.Value{nil}
		for at := 0; len(out[at]) < most; at++ {
			for _, item := range []string{"1", "2"} {
				out = append(out, append(append([]api.Value{}, out[at]...), num(item)))
			}
		}
		return out
	}
	for _, v := range rows(8) {
		for _, part := range rows(4) {
			l := []api.Value{list(v...), list(part...)}
			if got, want := asked("indices").Do(l), asked("indices").Want(l); !alike(got, want) {
				t.Errorf("indices of %v = %s, want %s", l, got.Told(), want.Told())
			}
		}
	}
}

func TestP21_2Order(t *testing.T) {
	checkRows(t, [][]string{
		{"[]", "[]", "reverse"}, {"[3,[1,2],1]", "[1,[1,2],3]", "reverse"}, {`""`, `""`, "reverse"}, {`"😀éa"`, `"aé😀"`, "reverse"}, {"\"\u0301e\"", `"e\u0301"`, "reverse"}, {"!reverse", "12", "reverse"}, {"!reverse", "true", "reverse"}, {"!reverse", `{"a":1}`, "reverse"}, {"!reverse", "false", "reverse"},
		{"[]", "[]", "sort"}, {`[null,false,true,-1,9,10,"a","b",[],[1],{},{"a":1}]`, `[{"a":1},{},[1],[],"b","a",10,9,-1,true,false,null]`, "sort"}, {"[1,1,2,2]", "[2,1,2,1]", "sort"}, {"!sort", "null", "sort"}, {"!sort", `"ba"`, "sort"}, {"!sort", `{"b":1}`, "sort"},
		{"[]", "[]", "unique"}, {"[1]", "[1,1,1]", "unique"}, {`[null,1,2,"a",[1]]`, `["a",2,[1],1,null,2,"a",1,[1]]`, "unique"}, {"!unique", "null", "unique"}, {"!unique", `"aab"`, "unique"}, {"!unique", "{}", "unique"},
		{"null", "[]", "min"}, {"1", "[3,1,2]", "min"}, {"null", "[1,null]", "min"}, {`{}`, `[{"a":1},{}]`, "min"}, {"-10", "[-9,-10,0]", "min"}, {"!min", "null", "min"}, {"!min", `"ab"`, "min"}, {"!min", "{}", "min"}, {"!min", "1", "min"},
		{"null", "[]", "max"}, {"3", "[3,1,2]", "max"}, {`"9"`, `[10,"9"]`, "max"}, {`{"a":1}`, `[{"a":1},{},[5]]`, "max"}, {"0", "[-9,-10,0]", "max"}, {"!max", "null", "max"}, {"!max", `"ab"`, "max"}, {"!max", "{}", "max"}, {"!max", "1", "max"},
	})
}

func TestP21_2By(t *testing.T) {
	const abcd = `["d","c","b","a"]`
	checkRows(t, [][]string{
		{"[]", "[]", "_sort_by", "[]"}, {"[]", "[]", "_sort_by", "[1,2]"}, {abcd, abcd, "_sort_by", "[]"}, {abcd, abcd, "_sort_by", "[1,1,1,1]"}, {`["a","b","c","d"]`, abcd, "_sort_by", "[4,3,2,1]"}, {`["a","b","c","d"]`, abcd, "_sort_by", "[4,3,2,1,0,-1]"}, {`["b","a","c","d"]`, abcd, "_sort_by", "[2,1]"}, {`["d","b","a","c"]`, abcd, "_sort_by", "[null,false]"}, {`["c","a","d","b"]`, abcd, "_sort_by", "[2,1,2,1]"}, {"[[2],[1]]", "[[1],[2]]", "_sort_by", `[[5],"x"]`},
		{"[]", "[]", "_group_by", "[]"}, {"[]", "[]", "_group_by", "[1]"}, {`[["d","c","b","a"]]`, abcd, "_group_by", "[]"}, {`[["c","a"],["d","b"]]`, abcd, "_group_by", "[2,1,2,1]"}, {`[["b","a"],["d"],["c"]]`, abcd, "_group_by", "[1,2]"}, {`[["c","b","a"],["d"]]`, abcd, "_group_by", "[1,null]"}, {`[["a"],["b"],["c"],["d"]]`, abcd, "_group_by", "[4,3,2,1,1,1]"},
		{"[]", "[]", "_unique_by", "[]"}, {`["d"]`, abcd, "_unique_by", "[]"}, {`["c","d"]`, abcd, "_unique_by", "[2,1,2,1]"}, {`["b","d","c"]`, abcd, "_unique_by", "[1,2]"}, {`["a","b","c","d"]`, abcd, "_unique_by", "[4,3,2,1,1]"}, {"[7,7]", "[7,7,7]", "_unique_by", "[1,2,1]"},
		{"null", "[]", "_min_by", "[]"}, {"null", "[]", "_min_by", "[1]"}, {`"d"`, abcd, "_min_by", "[]"}, {`"c"`, abcd, "_min_by", "[2,1,1,2]"}, {`"b"`, abcd, "_min_by", "[2,1]"}, {`"a"`, abcd, "_min_by", "[4,3,2,1,0]"}, {"[5]", "[[5]]", "_min_by", "[9]"},
		{"null", "[]", "_max_by", "[]"}, {"null", "[]", "_max_by", "[1]"}, {`"a"`, abcd, "_max_by", "[]"}, {`"b"`, abcd, "_max_by", "[1,2,2,1]"}, {`"d"`, abcd, "_max_by", "[2,1]"}, {`"d"`, abcd, "_max_by", "[4,3,2,1,9]"}, {"[5]", "[[5]]", "_max_by", "[9]"},
		{"!sort_by", "null", "_sort_by", "[]"}, {"!sort_by", "[]", "_sort_by", "null"}, {"!sort_by", `"ab"`, "_sort_by", "[1,2]"}, {"!sort_by", `{"a":1}`, "_sort_by", "[1]"}, {"!group_by", "[]", "_group_by", "1"}, {"!group_by", "null", "_group_by", "null"}, {"!unique_by", "[1]", "_unique_by", "{}"}, {"!unique_by", "1", "_unique_by", "[1]"}, {"!min_by", "[]", "_min_by", "null"}, {"!min_by", "null", "_min_by", "[]"}, {"!max_by", "[1]", "_max_by", `"a"`}, {"!max_by", "{}", "_max_by", "[]"},
	})
}

func TestP21_2Add(t *testing.T) {
	checkRows(t, [][]string{
		{"null", "[null]", "add"}, {"null", "[null,null]", "add"}, {"5", "[5]", "add"}, {"5", "[null,5,null]", "add"}, {"0", "[1,-1]", "add"}, {"-6", "[1,-3,-4]", "add"}, {"18446744073709551616", "[9223372036854775808,9223372036854775808]", "add"}, {"0", "[-99999999999999999999,99999999999999999999,0]", "add"}, {"false", "[false]", "add"}, {"true", "[null,true,null]", "add"},
		{`"abcd"`, `["a","b",null,"cd"]`, "add"}, {`""`, `["",""]`, "add"}, {`"éa😀"`, `["é","a","😀"]`, "add"}, {"[1,[2],1,3]", "[[1,[2]],[],null,[1,3]]", "add"}, {"[]", "[[],[]]", "add"}, {`{"a":3,"b":1,"c":4}`, `[{"a":1,"b":1},{"a":2},{},{"a":3,"c":4}]`, "add"}, {`{"a":{"y":2}}`, `[{"a":{"x":1}},{"a":{"y":2}}]`, "add"}, {"{}", "[{}]", "add"},
		{"!add", `["a",1]`, "add"}, {"!add", "[1,true]", "add"}, {"!add", "[true,true]", "add"}, {"!add", "[false,false]", "add"}, {"!add", "[true,false]", "add"}, {"!add", "[[1],2]", "add"}, {"!add", "[{},[]]", "add"}, {"!add", "[[],{}]", "add"}, {"!add", `[1,2,null,"x",3]`, "add"}, {"!add", `["x",null,0]`, "add"}, {"!add", "[false,null,null,true]", "add"}, {"!add", "[1,2,3,[4]]", "add"},
		{"!add", `"abc"`, "add"}, {"!add", `{"a":1,"b":2}`, "add"}, {"!add", "5", "add"}, {"!add", "true", "add"}, {"!add", "false", "add"},
	})
}

func TestP21_2Nested(t *testing.T) {
	checkRows(t, [][]string{
		{"[]", "[]", "flatten"}, {"[]", "[[],[[]],[[[]]]]", "flatten"}, {"[1,2,3,4]", "[[[[1]],2],[3,[[4]]]]", "flatten"}, {`[{"a":[1,[2]]},"x",null]`, `[{"a":[1,[2]]},["x",[null]]]`, "flatten"}, {"[3,1,2]", "[3,[1],2]", "flatten"}, {"!flatten", "null", "flatten"}, {"!flatten", `{"a":[1]}`, "flatten"}, {"!flatten", "1", "flatten"}, {"!flatten", `"a"`, "flatten"},
		{"[]", "[]", "transpose"}, {"[]", "[[]]", "transpose"}, {"[]", "[[],[],[]]", "transpose"}, {"[[1],[2]]", "[[1,2]]", "transpose"}, {"[[1,2]]", "[[1],[2]]", "transpose"}, {"[[1,null,4],[2,null,5],[null,null,6]]", "[[1,2],[],[4,5,6]]", "transpose"}, {"[[null,1],[null,2]]", "[[],[1,2]]", "transpose"}, {"[[[1],2],[{},null]]", "[[[1],{}],[2]]", "transpose"},
		{"!transpose", "[1]", "transpose"}, {"!transpose", "[[1],2]", "transpose"}, {"!transpose", "[[1],null]", "transpose"}, {"!transpose", "[{}]", "transpose"}, {"!transpose", `[[1],"a"]`, "transpose"}, {"!transpose", "null", "transpose"}, {"!transpose", `{"a":[1]}`, "transpose"}, {"!transpose", `"ab"`, "transpose"}, {"!transpose", "5", "transpose"},
	})
}

func TestP21_2P21_3Paths(t *testing.T) {
	const v = `{"a":[1,{"b":2},3],"c":null}`
	checkRows(t, [][]string{
		{v, v, "getpath", "[]"}, {"2", v, "getpath", `["a",-2,"b"]`}, {"null", v, "getpath", `["c","x",1]`}, {"null", v, "getpath", `["z"]`}, {"null", v, "getpath", `["a",9]`}, {"null", "null", "getpath", `["a",0]`}, {"5", "5", "getpath", "[]"}, {"null", "[1]", "getpath", "[99999999999999999999]"},
		{"!getpath", v, "getpath", `["a","b"]`}, {"!getpath", v, "getpath", `[0]`}, {"!getpath", v, "getpath", "[null]"}, {"!getpath", "null", "getpath", "[null]"}, {"!getpath", v, "getpath", `[["a"]]`}, {"!getpath", v, "getpath", `"a"`}, {"!getpath", v, "getpath", "null"}, {"!getpath", "[1]", "getpath", "0"}, {"!getpath", v, "getpath", `{"a":1}`}, {"!getpath", `"a"`, "getpath", "[0]"}, {"!getpath", v, "getpath", `["c",true]`},
		{"7", v, "setpath", "[]", "7"}, {`{"a":[1,{"b":7},3],"c":null}`, v, "setpath", `["a",1,"b"]`, "7"}, {`{"a":[1,{"b":2},3],"c":[null,{"x":[]}]}`, v, "setpath", `["c",1,"x"]`, "[]"}, {"[2]", "[1]", "setpath", "[-1]", "2"}, {`{"x":[null,null,1]}`, "null", "setpath", `["x",2]`, "1"}, {`{"a":1}`, "{}", "setpath", `["a"]`, "1"}, {"[null,null,5]", "[]", "setpath", "[2]", "5"}, {"[[3]]", "[[1]]", "setpath", "[0,0]", "3"},
		{"!setpath", "[1]", "setpath", "[-2]", "2"}, {"!setpath", "[]", "setpath", "[-1]", "2"}, {"!setpath", "[]", "setpath", "[65537]", "1"}, {"!setpath", "null", "setpath", "[40000,40000]", "1"}, {"!setpath", "[]", "setpath", "[99999999999999999999]", "1"}, {"!setpath", "1", "setpath", `["a"]`, "2"}, {"!setpath", `{"a":1}`, "setpath", `["a","b"]`, "2"}, {"!setpath", "{}", "setpath", "[0]", "1"}, {"!setpath", "[]", "setpath", `["a"]`, "1"}, {"!setpath", v, "setpath", "[null]", "1"}, {"!setpath", v, "setpath", `"a"`, "1"}, {"!setpath", "[1]", "setpath", "0", "1"}, {"!setpath", "null", "setpath", "null", "1"}, {"!setpath", v, "setpath", "{}", "1"},
		{v, v, "delpaths", "[]"}, {"null", v, "delpaths", "[[]]"}, {"null", v, "delpaths", `[["a"],[]]`}, {`{"c":null}`, v, "delpaths", `[["a"]]`}, {`{"a":[1,3]}`, v, "delpaths", `[["a",1],["a",1,"b"],["c"]]`}, {v, v, "delpaths", `[["z"],["a",9],["c","x"],["z","y"]]`}, {"[2]", "[0,1,2,3]", "delpaths", "[[0],[-1],[0],[1]]"}, {"[]", "[1,2]", "delpaths", "[[1],[0]]"}, {"5", "5", "delpaths", "[]"}, {"null", "null", "delpaths", `[["a"],[0]]`},
		{"!delpaths", v, "delpaths", `[["a","b"]]`}, {"!delpaths", v, "delpaths", `[["a"],[0]]`}, {"!delpaths", v, "delpaths", `["a"]`}, {"!delpaths", "[1]", "delpaths", "[0]"}, {"!delpaths", "[1]", "delpaths", "[[0],0]"}, {"!delpaths", "[1]", "delpaths", "[[0],null]"}, {"!delpaths", v, "delpaths", `[["a"],"a"]`}, {"!delpaths", v, "delpaths", `"a"`}, {"!delpaths", v, "delpaths", "null"}, {"!delpaths", v, "delpaths", `{"a":["a"]}`}, {"!delpaths", v, "delpaths", "[[null]]"}, {"!delpaths", "1", "delpaths", "[[0]]"}, {"!delpaths", "[1]", "delpaths", "[{}]"},
	})
	for _, n := range specimen.Far() {
		for _, in := range []string{"[1,2,3]", "null", "{}", `"a"`} {
			check(t, "getpath", js(in), list(num(n)))
			check(t, "delpaths", js(in), list(list(num(n))))
			if len(n) > 6 {
				check(t, "setpath", js(in), list(num(n)), num("1"))
			}
		}
	}
}
