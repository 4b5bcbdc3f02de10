package schema_test

import (
	"strings"
	"testing"

	"hallmark/api"
)

// What is neither true nor false nor an object.
func TestP15_1NoSchema(t *testing.T) {
	for _, doc := range []string{`null`, `0`, `-7`, `100000000000000000000`, `""`, `"true"`, `[]`, `[true]`, `[{}]`} {
		isFault(t, doc, `[]`, api.ErrSchema)
		isFault(t, `{"items":`+doc+`}`, `["items"]`, api.ErrSchema)
		isFault(t, `{"additionalProperties":`+doc+`}`, `["additionalProperties"]`, api.ErrSchema)
		isFault(t, `{"properties":{"a":true,"b":`+doc+`,"c":1}}`, `["properties","b"]`, api.ErrSchema)
		isFault(t, `{"anyOf":[`+doc+`]}`, `["anyOf",0]`, api.ErrSchema)
		isFault(t, `{"anyOf":[{},false,`+doc+`,1,true]}`, `["anyOf",2]`, api.ErrSchema)
	}
}

func TestP15_1Keywords(t *testing.T) {
	for _, r := range []struct{ doc, way string }{
		{`{"a":1}`, `["a"]`}, {`{"":1}`, `[""]`}, {`{"Type":"null"}`, `["Type"]`}, {`{"types":"null"}`, `["types"]`}, {`{"typ":"null"}`, `["typ"]`}, {`{"const":1}`, `["const"]`}, {`{"$ref":"x"}`, `["$ref"]`}, {`{"comment":"x"}`, `["comment"]`}, {`{"not":true}`, `["not"]`}, {`{"allOf":[true]}`, `["allOf"]`}, {`{"title description":""}`, `["title description"]`}, {`{"type ":"null"}`, `["type "]`}, {`{"é":[]}`, `["é"]`},
		{`{"type":"null","z":1}`, `["z"]`}, {`{"type":"null","a":1,"b":2}`, `["a"]`}, {`{"title":"x","Title":"x"}`, `["Title"]`},
		{`{"anyOf":[true],"enum":[1]}`, `["enum"]`}, {`{"anyOf":[true],"enum":[]}`, `["enum"]`}, {`{"anyOf":[true],"type":"null"}`, `["type"]`}, {`{"anyOf":[true],"additionalProperties":true}`, `["additionalProperties"]`}, {`{"anyOf":[],"additionalProperties":7}`, `["additionalProperties"]`}, {`{"anyOf":[true],"items":true,"z":1}`, `["items"]`}, {`{"anyOf":[true],"minimum":1}`, `["minimum"]`}, {`{"anyOf":[true],"maximum":1}`, `["maximum"]`}, {`{"anyOf":[true],"minItems":1}`, `["minItems"]`}, {`{"anyOf":[true],"maxItems":1}`, `["maxItems"]`}, {`{"anyOf":[true],"properties":{}}`, `["properties"]`}, {`{"anyOf":[true],"required":[]}`, `["required"]`}, {`{"anyOf":[true],"x":1}`, `["x"]`}, {`{"anyOf":[true],"a":1}`, `["a"]`},
		{`{"enum":[1],"type":"integer"}`, `["type"]`}, {`{"enum":[1],"additionalProperties":true}`, `["additionalProperties"]`}, {`{"enum":[],"additionalProperties":7}`, `["additionalProperties"]`}, {`{"enum":[1],"items":true}`, `["items"]`}, {`{"enum":[1],"minimum":1}`, `["minimum"]`}, {`{"enum":[1],"maximum":1}`, `["maximum"]`}, {`{"enum":[1],"minItems":1}`, `["minItems"]`}, {`{"enum":[1],"maxItems":1}`, `["maxItems"]`}, {`{"enum":[1],"properties":{}}`, `["properties"]`}, {`{"enum":[1],"required":[]}`, `["required"]`}, {`{"enum":[1],"x":1,"y":2}`, `["x"]`},
	} {
		isFault(t, r.doc, r.way, api.ErrKeyword)
	}
}

func TestP15_1Given(t *testing.T) {
	notTexts := []string{`null`, `false`, `true`, `0`, `[]`, `["x"]`, `{}`, `{"title":"x"}`}
	notNumbers := []string{`null`, `false`, `true`, `"0"`, `""`, `[]`, `[0]`, `{}`}
	notLists := []string{`null`, `false`, `true`, `0`, `""`, `"null"`, `{}`, `{"0":"a"}`}
	given := func(key, beside string, values ...string) {
		t.Helper()
		for _, v := range values {
			isFault(t, `{`+beside+`"`+key+`":`+v+`}`, `["`+key+`"]`, api.ErrGiven)
		}
	}
	for _, key := range []string{"title", "description", "$comment"} {
		given(key, "", notTexts...)
		given(key, `"type":"null",`, notTexts...)
		given(key, `"enum":[1],`, notTexts...)
	}
	given("title", `"anyOf":[true],`, notTexts...)
	for _, key := range []string{"minimum", "maximum"} {
		given(key, "", notNumbers...)
	}
	for _, key := range []string{"minItems", "maxItems"} {
		given(key, "", append(notNumbers, `-1`, `-2147483648`, `2147483648`, `4294967296`, `9223372036854775808`, `18446744073709551616`, `100000000000000000000`, `-100000000000000000000`)...)
	}
	given("properties", "", `null`, `false`, `true`, `0`, `""`, `[]`, `[{}]`)
	given("anyOf", "", append(notLists, `[]`)...)
	given("enum", "", append(notLists, `[]`)...)
	given("required", "", append(notLists, `"a"`)...)
	given("type", "", `null`, `false`, `true`, `0`, `""`, `{}`, `{"0":"null"}`, `[]`, `"Null"`, `"bool"`, `"int"`, `"text"`, `"false"`, `"null "`, `"list"`, `"any"`, `"numbers"`)
}

// Of a list the element that is at fault is told.
func TestP15_1Elements(t *testing.T) {
	for _, r := range []struct{ doc, way string }{
		{`{"type":[7]}`, `["type",0]`}, {`{"type":["text"]}`, `["type",0]`}, {`{"type":[""]}`, `["type",0]`}, {`{"type":[["null"]]}`, `["type",0]`}, {`{"type":["null",null]}`, `["type",1]`}, {`{"type":["null","x","null"]}`, `["type",1]`}, {`{"type":["null","integer","null","x"]}`, `["type",2]`}, {`{"type":["null","null","null"]}`, `["type",1]`}, {`{"type":["integer","number","integer"]}`, `["type",2]`}, {`{"type":["null","boolean","number","string","array","object","integer","object"]}`, `["type",7]`}, {`{"type":["string","array",{}]}`, `["type",2]`},
		{`{"required":[7]}`, `["required",0]`}, {`{"required":[null,""]}`, `["required",0]`}, {`{"required":["a","a"]}`, `["required",1]`}, {`{"required":["",""]}`, `["required",1]`}, {`{"required":["a","b","a",7]}`, `["required",2]`}, {`{"required":["b","a",7,"a"]}`, `["required",2]`}, {`{"required":["a",["a"]]}`, `["required",1]`}, {`{"required":["a","b","c","b","a"]}`, `["required",3]`}, {`{"required":["a","\u0061"]}`, `["required",1]`}, {`{"required":[{}]}`, `["required",0]`},
		{`{"enum":[[]]}`, `["enum",0]`}, {`{"enum":[{}]}`, `["enum",0]`}, {`{"enum":[1,3,[]]}`, `["enum",2]`}, {`{"enum":[null,{"a":1},[]]}`, `["enum",1]`}, {`{"enum":["a","a",[1]]}`, `["enum",2]`}, {`{"enum":[0,1,2,3,4,5,6,7,8,9,10,{}]}`, `["enum",11]`},
	} {
		isFault(t, r.doc, r.way, api.ErrGiven)
	}
}

// Of several faults the first one is told: by the keys' order, what stands beside a key being looked at whole, and last what the type would be.
func TestP15_1First(t *testing.T) {
	const broad = `{"enum":[1,3]}`
	long := `{"required":[` + listed(13) + `]}`
	for _, r := range []struct {
		doc, way string
		e        api.Errno
	}{
		{`{"type":7,"items":7}`, `["items"]`, api.ErrSchema}, {`{"type":7,"a":7}`, `["a"]`, api.ErrKeyword}, {`{"type":7,"z":7}`, `["type"]`, api.ErrGiven}, {`{"minimum":"x","minItems":"x","maximum":"x","maxItems":"x"}`, `["maxItems"]`, api.ErrGiven}, {`{"minimum":"x","minItems":"x","maximum":"x"}`, `["maximum"]`, api.ErrGiven}, {`{"minimum":"x","minItems":"x"}`, `["minItems"]`, api.ErrGiven}, {`{"title":7,"type":7}`, `["title"]`, api.ErrGiven}, {`{"title":7,"description":7,"$comment":7}`, `["$comment"]`, api.ErrGiven},
		{`{"required":7,"properties":{"a":7}}`, `["properties","a"]`, api.ErrSchema}, {`{"properties":{"b":7,"a":{"x":1}}}`, `["properties","a","x"]`, api.ErrKeyword}, {`{"properties":{"b":7,"a":{"title":""}}}`, `["properties","b"]`, api.ErrSchema}, {`{"properties":{"a":{"type":7,"items":{"z":1}},"b":{}}}`, `["properties","a","items","z"]`, api.ErrKeyword}, {`{"properties":{"Z":7,"a":8}}`, `["properties","Z"]`, api.ErrSchema}, {`{"additionalProperties":{"type":[]},"a":1}`, `["a"]`, api.ErrKeyword}, {`{"additionalProperties":{"type":[]},"b":1,"title":7}`, `["additionalProperties","type"]`, api.ErrGiven},
		{`{"anyOf":[{"title":7},7]}`, `["anyOf",0,"title"]`, api.ErrGiven}, {`{"anyOf":[{"title":""},7,{"title":7}]}`, `["anyOf",1]`, api.ErrSchema}, {`{"anyOf":[7],"$comment":7}`, `["$comment"]`, api.ErrGiven}, {`{"anyOf":[7],"description":7}`, `["anyOf",0]`, api.ErrSchema}, {`{"anyOf":[7],"enum":7}`, `["anyOf",0]`, api.ErrSchema}, {`{"enum":[[]],"description":7}`, `["description"]`, api.ErrGiven}, {`{"enum":[[]],"title":7}`, `["enum",0]`, api.ErrGiven}, {`{"enum":[[]],"type":7}`, `["enum",0]`, api.ErrGiven}, {`{"enum":[[]],"a":7}`, `["a"]`, api.ErrKeyword},
		{`{"enum":[1,3],"title":7}`, `["title"]`, api.ErrGiven}, {`{"enum":[1,3],"type":"integer"}`, `["type"]`, api.ErrKeyword}, {`{"enum":[1,3,{}]}`, `["enum",2]`, api.ErrGiven}, {`{"anyOf":[` + broad + `,7]}`, `["anyOf",0]`, api.ErrMany}, {`{"anyOf":[7,` + broad + `]}`, `["anyOf",0]`, api.ErrSchema}, {`{"anyOf":[true,` + broad + `]}`, `["anyOf",1]`, api.ErrMany}, {`{"anyOf":[` + broad + `],"title":7}`, `["anyOf",0]`, api.ErrMany}, {`{"anyOf":[{"enum":[1]},{"enum":[3]},7]}`, `["anyOf",2]`, api.ErrSchema}, {`{"anyOf":[{"enum":[1]},{"enum":[3]}],"title":7}`, `["title"]`, api.ErrGiven}, {`{"anyOf":[{"enum":[1]},{"enum":[3]}],"z":7}`, `["z"]`, api.ErrKeyword}, {`{"anyOf":[{"enum":[1]},{"enum":[3]},true]}`, `[]`, api.ErrMany}, {`{"anyOf":[{"anyOf":[{"enum":[1]},{"enum":[3]}]},{"type":"integer"}]}`, `["anyOf",0]`, api.ErrMany},
		{`{"items":` + broad + `,"type":7}`, `["items"]`, api.ErrMany}, {`{"type":"null","items":` + broad + `}`, `["items"]`, api.ErrMany}, {`{"additionalProperties":` + broad + `,"items":7}`, `["additionalProperties"]`, api.ErrMany}, {`{"properties":{"a":` + broad + `,"b":7}}`, `["properties","a"]`, api.ErrMany}, {`{"properties":{"b":` + broad + `,"a":7}}`, `["properties","a"]`, api.ErrSchema}, {`{"properties":{"b":` + broad + `},"required":7}`, `["properties","b"]`, api.ErrMany}, {`{"maxItems":0,"items":` + broad + `}`, `["items"]`, api.ErrMany},
		{long, `[]`, api.ErrMany}, {`{"required":[` + listed(13) + `],"title":7}`, `["title"]`, api.ErrGiven}, {`{"required":[` + listed(13) + `],"type":7}`, `["type"]`, api.ErrGiven}, {`{"items":` + long + `,"properties":7}`, `["items"]`, api.ErrMany}, {`{"items":` + long + `,"enumm":7}`, `["enumm"]`, api.ErrKeyword}, {`{"items":` + long + `,"itemss":7}`, `["items"]`, api.ErrMany}, {`{"items":{"items":` + long + `,"type":"null"},"type":"null"}`, `["items","items"]`, api.ErrMany},
	} {
		isFault(t, r.doc, r.way, r.e)
	}
}

// listed are so many names as JSON writes them in a list.
func listed(many int) string {
	var out []string
	for i := range many {
		out = append(out, `"n`+plain(index(10+i))+`"`)
	}
	return strings.Join(out, ",")
}

// Remarks say nothing, wherever they stand.
func TestP15_1Remarks(t *testing.T) {
	for _, doc := range []string{`{}`, `{"type":"null"}`, `{"enum":[1,2]}`, `{"anyOf":[{"type":"null"},{"enum":["a"]}]}`, `{"items":{"minimum":2},"maxItems":3}`, `{"properties":{"a":{"type":"string"},"title":true},"required":["title","b"],"additionalProperties":{"enum":[null]}}`} {
		want := wordsOf(js(doc)).of
		for _, remark := range []string{`"title":""`, `"description":"enum"`, `"$comment":"\u0000"`, `"$comment":"a","description":"b","title":"c"`} {
			with := strings.TrimSuffix("{"+remark+","+doc[1:], ",}")
			if doc == `{}` {
				with = "{" + remark + "}"
			}
			isType(t, with, want)
			isType(t, strings.ReplaceAll(doc, `{"type":`, `{`+remark+`,"type":`), want)
		}
	}
}
