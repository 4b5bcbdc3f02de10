package schema_test

import (
	"slices"
	"strings"
	"testing"

	"hallmark/api"
	"hallmark/path"
	"hallmark/schema"
	"hallmark/shape"
	"hallmark/specimen"
)

// isType holds Of and Read to a type that is written out, which is that of the words, alone and inside other documents.
func isType(t *testing.T, doc string, want api.Type) {
	t.Helper()
	is(t, doc, said{of: want})
	for _, around := range surroundings() {
		check(t, js(strings.ReplaceAll(around.doc, "?", doc)))
	}
}

// isFault holds them to a fault that is written out, alone and inside other documents.
func isFault(t *testing.T, doc, way string, e api.Errno) {
	t.Helper()
	want := said{way: js(way).Items, e: e}
	is(t, doc, want)
	for _, around := range surroundings() {
		is(t, strings.ReplaceAll(around.doc, "?", doc), said{way: slices.Concat(js(around.way).Items, want.way), e: e})
	}
}

// surroundings are documents around another one, each with the way to it.
func surroundings() []struct{ doc, way string } {
	return []struct{ doc, way string }{
		{`{"items":?}`, `["items"]`},
		{`{"items":?,"type":"null"}`, `["items"]`},
		{`{"additionalProperties":?,"required":["a","b"]}`, `["additionalProperties"]`},
		{`{"properties":{"x":?}}`, `["properties","x"]`},
		{`{"required":["x"],"properties":{"":true,"a":{"type":"null"},"x":?,"y":7}}`, `["properties","x"]`},
		{`{"anyOf":[?]}`, `["anyOf",0]`},
		{`{"$comment":"","anyOf":[false,{"enum":[null]},?],"title":7}`, `["anyOf",2]`},
		{`{"items":{"anyOf":[{"properties":{"items":{"additionalProperties":?}}},3]}}`, `["items","anyOf",0,"properties","items","additionalProperties"]`},
	}
}

// is holds Of and Read to what is written out, which is what the words say.
func is(t *testing.T, doc string, want said) {
	t.Helper()
	v := js(doc)
	if by := wordsOf(v); !alike(by, want) {
		t.Errorf("%s: by the words %s, want %s", doc, told(by), told(want))
	}
	answers(t, v, want)
	reads(t, v, want, random(int64(len(doc))))
}

// check holds Of to the words.
func check(t *testing.T, v api.Value) {
	t.Helper()
	answers(t, v, wordsOf(v))
}

// answers holds Of to an answer, to what a type or a way is by itself, and to the rules of memory.
func answers(t *testing.T, v api.Value, want said) {
	t.Helper()
	given := specimen.Roomy(v)
	var got said
	got.of, got.way, got.e = schema.Of(given)
	if !alike(got, want) {
		t.Errorf("Of(%s): %s, want %s", plain(v), told(got), told(want))
	}
	if !shape.Formed(got.of) || !within(got.of, api.MaxHeight) {
		t.Errorf("Of(%s): %s isn't well shaped, or beyond the limits", plain(v), short(got.of))
	}
	if _, e := path.Get(v, got.way); e != api.OK {
		t.Errorf("Of(%s): the way %s leads nowhere", plain(v), plain(specimen.List(got.way...)))
	}
	own(t, given, got)
	if !specimen.Untouched(given, v) {
		t.Errorf("Of(%s): the value was changed", plain(v))
	}
}

// own: what is answered is in memory of its own; it is written into.
func own(t *testing.T, given api.Value, got said) {
	t.Helper()
	way := specimen.List(got.way...)
	if !specimen.PlacesOfTypes(got.of).Apart(specimen.PlacesOf(given, way)) || !specimen.Own(way, given) {
		t.Errorf("Of(%s): memory that isn't its own", plain(given))
	}
	specimen.ScribbleType(got.of)
	specimen.Scribble(way)
}

// alike says whether two answers are so.
func alike(a, b said) bool {
	return a.e == b.e && specimen.AlikeTypes(a.of, b.of) && slices.EqualFunc(a.way, b.way, specimen.Alike)
}

// told is an answer as a text.
func told(s said) string {
	return short(s.of) + ", " + plain(specimen.List(s.way...)) + ", error " + plain(index(int(s.e)))
}

func TestExamples(t *testing.T) {
	isType(t, "true", every)
	isType(t, "{}", every)
	isType(t, "false", never)
	isType(t, `{"type":"integer","minimum":3}`, nums("3", ""))
	isType(t, `{"minimum":3}`, api.Type{Null: true, False: true, True: true, Nums: []api.Span{{Low: "3"}}, AnyText: true, Arrays: []api.Arr{{Item: every, Min: 0, Max: -1}}, Objects: []api.Obj{{Rest: every}}})
	isType(t, `{"type":["string","null"]}`, with(null, anyText))
	isType(t, `{"enum":["b","a",null]}`, with(null, texts("a", "b")))
	isType(t, `{"enum":[3,1,2]}`, nums("1", "3"))
	isFault(t, `{"enum":[1,3]}`, `[]`, api.ErrMany)
	isType(t, `{"type":"object","properties":{"a":{"type":"null"}},"required":["a","b"],"additionalProperties":false}`, never)
	isType(t, `{"anyOf":[{"type":"integer","maximum":3},{"type":"integer","minimum":4}]}`, anyNumber)
	isFault(t, `{"anyOf":[{"type":"array","items":{"type":"null"}},{"type":"array","items":true,"minItems":1}]}`, `[]`, api.ErrMany)
	isFault(t, `3`, `[]`, api.ErrSchema)
	isFault(t, `{"a":1}`, `["a"]`, api.ErrKeyword)
	isFault(t, `{"type":"text"}`, `["type"]`, api.ErrGiven)
	isFault(t, `{"type":["null","null"]}`, `["type",1]`, api.ErrGiven)
	isFault(t, `{"properties":{"x":{"items":[]}}}`, `["properties","x","items"]`, api.ErrSchema)
	isRead(t, `{"a" : 1}`, never, 7, api.ErrKeyword)
	isRead(t, `{`, never, 1, api.ErrEnd)
	isWritten(t, never, `false`)
	isWritten(t, with(null, texts("a")), `{"enum":[null,"a"]}`)
	isWritten(t, with(nums("", "5"), arrays(never, 0, 0)), `{"anyOf":[{"maximum":5,"type":"integer"},{"maxItems":0,"type":"array"}]}`)
}

func TestP15_1Every(t *testing.T) {
	for _, doc := range []string{`true`, `{}`, `{"title":""}`, `{"description":"x"}`, `{"$comment":"anyOf"}`, `{"$comment":"a","description":"b","title":"c"}`, `{"anyOf":[true]}`, `{"anyOf":[{}]}`} {
		isType(t, doc, every)
	}
	for _, doc := range []string{`{"type":["null","boolean","number","string","array","object"]}`, `{"type":["object","array","string","integer","boolean","null"]}`, `{"type":["number","null","boolean","integer","string","array","object"],"title":"all"}`, `{"minItems":0}`, `{"items":true}`, `{"items":{}}`, `{"properties":{}}`, `{"required":[]}`, `{"additionalProperties":true}`, `{"additionalProperties":{"title":"any"}}`} {
		isType(t, doc, laid)
	}
}

func TestP15_1Enum(t *testing.T) {
	for _, r := range []struct {
		doc  string
		want api.Type
	}{
		{`[null]`, null}, {`[false]`, api.Type{False: true}}, {`[true]`, truth}, {`[true,null,false]`, api.Type{Null: true, False: true, True: true}}, {`[null,null,true,null]`, with(null, truth)},
		{`[0]`, nums("0", "0")}, {`[-0]`, nums("0", "0")}, {`[7,7,7]`, nums("7", "7")}, {`[2,-1,0,1]`, nums("-1", "2")}, {`[10,9]`, nums("9", "10")}, {`[-9,-10,-11]`, nums("-11", "-9")}, {`[5,3,4,5,3]`, nums("3", "5")},
		{`[100000000000000000000,99999999999999999999]`, nums("99999999999999999999", "100000000000000000000")}, {`[-100000000000000000001,-99999999999999999999,-100000000000000000000]`, nums("-100000000000000000001", "-99999999999999999999")},
		{`[9223372036854775808,9223372036854775806,9223372036854775807]`, nums("9223372036854775806", "9223372036854775808")},
		{`[""]`, texts("")}, {`["b","a","b"]`, texts("a", "b")}, {`["a","é","Z","","aa","~"]`, texts("", "Z", "a", "aa", "~", "é")}, {`["\ud800\udc00","\uffff"]`, texts("\uffff", "\U00010000")}, {`["1","a"]`, texts("1", "a")},
		{`["x",3,null,2,true,"",false,"x"]`, with(with(api.Type{Null: true, False: true, True: true}, nums("2", "3")), texts("", "x"))},
	} {
		isType(t, `{"enum":`+r.doc+`}`, r.want)
		isType(t, `{"description":"one of","enum":`+r.doc+`,"title":"x"}`, r.want)
	}
	for _, list := range []string{`[1,3]`, `[3,1]`, `[1,2,4]`, `[0,1,2,4,5]`, `[-1,1]`, `[1,1,3]`, `[1,3,3]`, `["a",1,null,3]`, `[0,100000000000000000000]`, `[100000000000000000000,100000000000000000002]`, `[9,11,9]`, `[-1,-3]`, `[1,-2,3,0]`, `[0,2,2]`} {
		isFault(t, `{"enum":`+list+`}`, `[]`, api.ErrMany)
		isFault(t, `{"enum":`+list+`,"title":"gap"}`, `[]`, api.ErrMany)
	}
}

func TestP15_1Type(t *testing.T) {
	bools := api.Type{False: true, True: true}
	for _, r := range []struct {
		name string
		want api.Type
	}{{"null", null}, {"boolean", bools}, {"integer", anyNumber}, {"number", anyNumber}, {"string", anyText}, {"array", anyArray}, {"object", anyObject}} {
		isType(t, `{"type":"`+r.name+`"}`, r.want)
		isType(t, `{"type":["`+r.name+`"]}`, r.want)
		isType(t, `{"type":"`+r.name+`","title":"x"}`, r.want)
	}
	isType(t, `{"type":["integer","number"]}`, anyNumber)
	isType(t, `{"type":["number","integer"],"maximum":4}`, nums("", "4"))
	isType(t, `{"type":["object","boolean","array"]}`, with(with(bools, anyArray), anyObject))
	isType(t, `{"type":["string","number"]}`, with(anyNumber, anyText))
}

// words that speak of another kind than type says allow what they say nothing of.
func TestP15_1OtherKinds(t *testing.T) {
	const all = `"minimum":5,"maximum":1,"minItems":2,"maxItems":1,"items":false,"properties":{"a":false},"required":["a"],"additionalProperties":false`
	isType(t, `{"type":"null",`+all+`}`, null)
	isType(t, `{"type":["string","boolean"],`+all+`}`, api.Type{False: true, True: true, AnyText: true})
	isType(t, `{"type":["array","integer","object"],`+all+`}`, never)
	isType(t, `{`+all+`}`, api.Type{Null: true, False: true, True: true, AnyText: true})
}

func TestP15_1Numbers(t *testing.T) {
	for _, r := range []struct {
		doc  string
		want api.Type
	}{
		{`"minimum":3`, nums("3", "")}, {`"maximum":3`, nums("", "3")}, {`"minimum":3,"maximum":3`, nums("3", "3")}, {`"minimum":3,"maximum":4`, nums("3", "4")}, {`"minimum":4,"maximum":3`, never}, {`"minimum":10,"maximum":9`, never}, {`"minimum":9,"maximum":10`, nums("9", "10")},
		{`"minimum":-3,"maximum":-4`, never}, {`"minimum":-4,"maximum":-3`, nums("-4", "-3")}, {`"minimum":0,"maximum":-0`, nums("0", "0")}, {`"minimum":1,"maximum":-1`, never}, {`"minimum":-1,"maximum":1`, nums("-1", "1")},
		{`"minimum":100000000000000000000,"maximum":99999999999999999999`, never}, {`"minimum":99999999999999999999,"maximum":100000000000000000000`, nums("99999999999999999999", "100000000000000000000")},
	} {
		isType(t, `{"type":"integer",`+r.doc+`}`, r.want)
		isType(t, `{"type":["null","number"],`+r.doc+`}`, with(null, r.want))
	}
}

func TestP15_1Arrays(t *testing.T) {
	empty := arrays(never, 0, 0)
	for _, r := range []struct {
		doc  string
		want api.Type
	}{
		{`"items":true`, anyArray}, {`"items":{"type":"null"}`, arrays(null, 0, -1)}, {`"items":false`, empty}, {`"items":{"anyOf":[false]}`, empty}, {`"minItems":0`, anyArray}, {`"minItems":1`, arrays(every, 1, -1)}, {`"maxItems":0`, empty}, {`"maxItems":1`, arrays(every, 0, 1)},
		{`"maxItems":-0`, empty}, {`"minItems":-0,"maxItems":2`, arrays(every, 0, 2)}, {`"minItems":0,"maxItems":0`, empty}, {`"minItems":1,"maxItems":0`, never}, {`"minItems":1,"maxItems":1`, arrays(every, 1, 1)}, {`"minItems":2,"maxItems":1`, never}, {`"minItems":1,"maxItems":2`, arrays(every, 1, 2)},
		{`"minItems":2147483647`, arrays(every, 2147483647, -1)}, {`"maxItems":2147483647`, arrays(every, 0, 2147483647)}, {`"minItems":2147483647,"maxItems":2147483646`, never}, {`"minItems":2147483647,"maxItems":2147483647`, arrays(every, 2147483647, 2147483647)},
		{`"items":false,"minItems":0`, empty}, {`"items":false,"minItems":1`, never}, {`"items":false,"maxItems":5`, empty}, {`"items":false,"minItems":1,"maxItems":5`, never}, {`"items":false,"minItems":0,"maxItems":0`, empty}, {`"items":false,"minItems":3,"maxItems":2`, never},
		{`"items":{"type":"null"},"maxItems":0`, empty}, {`"items":{"type":"null"},"minItems":1,"maxItems":0`, never}, {`"items":{"type":"null"},"minItems":1,"maxItems":3`, arrays(null, 1, 3)}, {`"items":{"type":"null"},"minItems":4,"maxItems":3`, never},
		{`"items":{"items":{"type":"array","maxItems":2},"type":"array","minItems":1}`, arrays(arrays(arrays(every, 0, 2), 1, -1), 0, -1)}, {`"items":{"type":"array","items":false,"minItems":1}`, empty},
	} {
		isType(t, `{"type":"array",`+r.doc+`}`, r.want)
		isType(t, `{"type":["string","array"],`+r.doc+`}`, with(anyText, r.want))
	}
}

func TestP15_1Objects(t *testing.T) {
	ab := []string{"a", "b"}
	for _, r := range []struct {
		doc  string
		want api.Type
	}{
		{`"properties":{"a":{"type":"null"}}`, objects(objOf(every, ab[:1], null))}, {`"properties":{"b":true,"a":false}`, objects(objOf(every, ab, never, every))}, {`"required":["a"]`, objects(objOf(every, []string{"a!"}, every))}, {`"required":["b","a",""]`, objects(objOf(every, []string{"!", "a!", "b!"}, every, every, every))},
		{`"additionalProperties":false`, objects(objOf(never, nil))}, {`"additionalProperties":{"type":"null"}`, objects(objOf(null, nil))}, {`"properties":{"":{"type":"null"}}`, objects(objOf(every, []string{""}, null))},
		{`"properties":{"a":{"type":"null"}},"required":["a"]`, objects(objOf(every, []string{"a!"}, null))}, {`"properties":{"b":{"type":"null"}},"required":["a"]`, objects(objOf(every, []string{"a!", "b"}, every, null))}, {`"properties":{"a":{"type":"null"},"c":true},"required":["c","b"]`, objects(objOf(every, []string{"a", "b!", "c!"}, null, every, every))},
		{`"properties":{"b":{"type":"null"}},"required":["a"],"additionalProperties":{"enum":["x"]}`, objects(objOf(texts("x"), []string{"a!", "b"}, texts("x"), null))}, {`"properties":{"a":false},"additionalProperties":false`, objects(objOf(never, ab[:1], never))},
		{`"properties":{"a":{"type":"null"}},"required":["a"],"additionalProperties":false`, objects(objOf(never, []string{"a!"}, null))}, {`"required":["a"],"additionalProperties":false`, never}, {`"properties":{"b":true},"required":["a","b"],"additionalProperties":false`, never}, {`"properties":{"a":false},"required":["a"]`, never}, {`"properties":{"a":{"anyOf":[false]}},"required":["b","a"]`, never},
		{`"properties":{"a":false},"required":["b"]`, objects(objOf(every, []string{"a", "b!"}, never, every))}, {`"properties":{"a":true,"b":{"type":"object","required":["c"],"properties":{"c":false}}},"required":["b"]`, never}, {`"properties":{"type":{"type":"null"},"anyOf":true,"title":{"title":"t"},"enum":false}`, objects(objOf(every, []string{"anyOf", "enum", "title", "type"}, every, never, every, null))},
		{`"properties":{"a":{"type":"object","properties":{"a":{"type":"object","properties":{"a":false}}}}}`, objects(objOf(every, ab[:1], objects(objOf(every, ab[:1], objects(objOf(every, ab[:1], never))))))},
		{`"required":["é","Z","\u0000"]`, objects(objOf(every, []string{"\x00!", "Z!", "é!"}, every, every, every))}, {`"required":["required","a"],"properties":{"required":{"type":"null"}}`, objects(objOf(every, []string{"a!", "required!"}, every, null))},
	} {
		isType(t, `{"type":"object",`+r.doc+`}`, r.want)
		isType(t, `{"type":["null","object"],`+r.doc+`}`, with(null, r.want))
	}
}

// What isn't well shaped, at the top or inside, is told as such ahead of all else.
func TestP15_1Wrong(t *testing.T) {
	for _, wrong := range specimen.Wrong() {
		for _, v := range []api.Value{wrong, object(map[string]api.Value{"items": wrong}), object(map[string]api.Value{"a": {}, "enum": specimen.List(wrong)}), object(map[string]api.Value{"anyOf": specimen.List(specimen.Num("1"), wrong)})} {
			given := specimen.Roomy(v)
			if of, way, e := schema.Of(given); e != api.ErrShape || len(way) > 0 || !specimen.IsNever(of) {
				t.Errorf("Of(%v): %s, %v, %v", v, short(of), way, e)
			}
			if !specimen.Untouched(given, v) {
				t.Errorf("%v was changed", v)
			}
		}
	}
}
