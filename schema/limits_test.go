package schema_test

import (
	"slices"
	"strings"
	"testing"

	"hallmark/api"
	"hallmark/specimen"
)

// counted are texts n10, n11, .. : so many.
func counted(many int) []string {
	var out []string
	for i := range many {
		out = append(out, "n"+plain(index(10+i)))
	}
	return out
}

func TestP15_1MaxTexts(t *testing.T) {
	isType(t, `{"enum":[`+listed(16)+`]}`, texts(counted(16)...))
	isType(t, `{"enum":[`+listed(16)+`,"n10",null,`+listed(16)+`]}`, with(null, texts(counted(16)...)))
	isFault(t, `{"enum":[`+listed(17)+`]}`, `[]`, api.ErrMany)
	isFault(t, `{"enum":[null,`+listed(16)+`,"a"]}`, `[]`, api.ErrMany)
	isType(t, either(`{"enum":[`+listed(16)+`]}`, `{"enum":[`+listed(15)+`]}`), texts(counted(16)...))
	isFault(t, either(`{"enum":[`+listed(16)+`]}`, `{"enum":["a"]}`), `[]`, api.ErrMany)
	isFault(t, either(`{"enum":["a"]}`, `{"type":"null"}`, `{"enum":[`+listed(16)+`]}`), `[]`, api.ErrMany)
	isType(t, either(`{"enum":[`+listed(16)+`]}`, `{"enum":["a","b"]}`, `{"type":"string"}`), anyText)
	isType(t, either(`{"enum":[`+listed(16)+`]}`, `{"enum":["a","b"]}`, `true`), every)
	isFault(t, either(`{"type":"string"}`, `{"enum":[`+listed(17)+`]}`), `["anyOf",1]`, api.ErrMany)
}

func TestP15_1MaxFields(t *testing.T) {
	fields := func(many int) string { return strings.ReplaceAll(listed(many)+",", `",`, `":true,`) }
	wide := func(many int, must string) api.Obj {
		return objOf(every, strings.Fields(strings.Join(counted(many), must+" ")+must), slices.Repeat([]api.Type{every}, many)...)
	}
	isType(t, `{"type":"object","required":[`+listed(12)+`]}`, objects(wide(12, "!")))
	isFault(t, `{"type":"object","required":[`+listed(13)+`]}`, `[]`, api.ErrMany)
	isType(t, `{"type":"object","properties":{`+strings.TrimSuffix(fields(12), ",")+`}}`, objects(wide(12, "")))
	isFault(t, `{"type":"object","properties":{`+strings.TrimSuffix(fields(13), ",")+`}}`, `[]`, api.ErrMany)
	isType(t, `{"type":"object","required":[`+listed(12)+`],"properties":{`+strings.TrimSuffix(fields(12), ",")+`}}`, objects(wide(12, "!")))
	isFault(t, `{"type":"object","required":[`+listed(12)+`],"properties":{"a":false}}`, `[]`, api.ErrMany)
	isFault(t, `{"type":"object","required":["a"],"properties":{`+fields(11)+`"b":{"type":"null"}}}`, `[]`, api.ErrMany)
	isType(t, `{"type":"null","required":[`+listed(13)+`]}`, null)
	isType(t, `{"type":"object","required":[`+listed(13)+`],"additionalProperties":false}`, never)
	isType(t, `{"type":"object","required":["a"],"properties":{`+fields(13)+`"a":false}}`, never)
	isType(t, either(`{"type":"object","required":[`+listed(12)+`]}`, `{"type":"object","required":[`+listed(12)+`]}`), objects(wide(12, "!"), wide(12, "!")))
}

func TestP15_1MaxAlts(t *testing.T) {
	one := func(name string) string {
		return `{"type":"object","required":["` + name + `"],"additionalProperties":{"type":"null"}}`
	}
	obj := func(name string) api.Obj { return objOf(null, []string{name + "!"}, null) }
	isType(t, either(one("d"), one("c"), one("b"), one("a")), objects(obj("d"), obj("c"), obj("b"), obj("a")))
	isType(t, either(one("a"), one("a"), `{"type":"null"}`, one("a"), one("a")), with(null, objects(obj("a"), obj("a"), obj("a"), obj("a"))))
	isFault(t, either(one("a"), one("b"), one("c"), one("d"), one("e")), `[]`, api.ErrMany)
	isFault(t, either(one("a"), one("a"), one("a"), one("a"), one("a")), `[]`, api.ErrMany)
	isFault(t, either(either(one("a"), one("b"), one("c")), either(one("c"), one("d"))), `[]`, api.ErrMany)
	isType(t, either(either(one("a"), one("b")), either(one("c"), one("d"))), objects(obj("a"), obj("b"), obj("c"), obj("d")))
	isType(t, either(one("a"), one("b"), one("c"), one("d"), one("e"), `true`), every)
	isFault(t, either(`true`, either(one("a"), one("b"), one("c"), one("d"), one("e"))), `["anyOf",1]`, api.ErrMany)
}

// nested is a document within so many others, each a step higher by its items, a field or the rest.
func nested(doc string, high int) string {
	around := []string{`{"type":"array","items":?}`, `{"type":"object","properties":{"a":?}}`, `{"type":"object","additionalProperties":?}`, `{"type":"object","required":["a"],"properties":{"a":?},"additionalProperties":false}`, `{"anyOf":[{"type":"null"},{"type":"array","items":?,"maxItems":3}]}`}
	for i := range high {
		doc = strings.ReplaceAll(around[(high-i)%len(around)], "?", doc)
	}
	return doc
}

func TestP15_1MaxHeight(t *testing.T) {
	for _, doc := range []string{`{"type":"null"}`, `true`, `{"enum":["a"]}`, `{"type":["null","array"],"minItems":2,"maxItems":1}`, `{"type":["null","array"],"items":false,"minItems":1}`, `{"type":["null","object"],"required":["a"],"additionalProperties":false}`} {
		for _, r := range []struct{ around, first, step string }{{`{"type":"array","items":?}`, `[]`, `["items"]`}, {`{"type":"object","properties":{"a":?}}`, `[]`, `["properties","a"]`}, {`{"type":"object","additionalProperties":?}`, `[]`, `["additionalProperties"]`}, {`{"anyOf":[{"type":"object"},{"type":"object","additionalProperties":?}]}`, `["anyOf",1]`, `["anyOf",1,"additionalProperties"]`}} {
			high, way := doc, js(r.first).Items
			for n := 1; n <= 12; n++ {
				high = strings.ReplaceAll(r.around, "?", high)
				switch {
				case n <= 8:
					isType(t, high, wordsOf(js(high)).of)
				case n > 9:
					way = slices.Concat(js(r.step).Items, way)
					fallthrough
				default:
					isFault(t, high, plain(specimen.List(way...)), api.ErrMany)
				}
			}
		}
	}
	isFault(t, nested(`{}`, 9), `[]`, api.ErrMany)
	isType(t, `{"type":"null","items":`+nested(`{}`, 8)+`}`, null)
	isType(t, `{"type":"array","maxItems":0,"items":`+nested(`{}`, 8)+`}`, arrays(never, 0, 0))
	isType(t, `{"type":"array","minItems":2,"maxItems":1,"items":`+nested(`{}`, 8)+`}`, never)
	isType(t, `{"type":"object","required":["a"],"properties":{"a":false},"additionalProperties":`+nested(`{}`, 8)+`}`, never)
	isType(t, `{"type":"object","required":["a"],"properties":{"a":false,"b":`+nested(`{}`, 8)+`}}`, never)
	isType(t, either(`{"type":"array","items":`+nested(`{}`, 7)+`}`, `{"type":"array"}`), anyArray)
	isType(t, `{"type":"array","items":`+either(`{"type":"array","items":`+nested(`{}`, 7)+`}`, `{"type":"array"}`)+`}`, arrays(anyArray, 0, -1))
	isType(t, `{"type":"array","items":`+either(`{"type":"array"}`, `{"type":"array","items":`+nested(`{}`, 7)+`}`)+`}`, arrays(anyArray, 0, -1))
	isType(t, `{"type":"array","items":`+either(`{"type":"array","items":`+nested(`{}`, 7)+`}`, `true`)+`}`, anyArray)
	isFault(t, `{"type":"array","items":`+either(`{"type":"array","items":`+nested(`{}`, 7)+`}`, `false`)+`}`, `[]`, api.ErrMany)
	isFault(t, `{"type":"array","items":`+either(`{"type":"array"}`, `{"type":"object","additionalProperties":`+nested(`{}`, 7)+`}`)+`}`, `[]`, api.ErrMany)
	isFault(t, `{"type":"object","required":["z"],"additionalProperties":`+nested(`{}`, 8)+`}`, `[]`, api.ErrMany)
	isFault(t, `{"properties":{"a":{},"b":`+nested(`{}`, 8)+`}}`, `[]`, api.ErrMany)
}

// What is beyond a limit inside is told there, whatever lies around it.
func TestP15_1BeyondInside(t *testing.T) {
	five := either(slices.Repeat([]string{`{"type":"object"}`}, 5)...)
	for _, doc := range []string{`{"enum":[` + listed(17) + `]}`, `{"required":[` + listed(13) + `]}`, five, nested(`{}`, 9), `{"enum":[0,2]}`, either(`{"enum":[0]}`, `{"enum":[2]}`)} {
		isFault(t, doc, `[]`, api.ErrMany)
		isFault(t, `{"type":"null","additionalProperties":`+doc+`}`, `["additionalProperties"]`, api.ErrMany)
		isFault(t, `{"type":"array","maxItems":0,"items":`+doc+`}`, `["items"]`, api.ErrMany)
		isFault(t, either(`true`, doc, `7`), `["anyOf",1]`, api.ErrMany)
	}
}
