package schema_test

import (
	"testing"

	"hallmark/api"
	"hallmark/schema"
	"hallmark/specimen"
	"hallmark/writer"
)

// isWritten holds Document and Write to a text that is written out, which is that of the words.
func isWritten(t *testing.T, a api.Type, want string) {
	t.Helper()
	if by := plain(documentBy(a)); by != want {
		t.Errorf("%s: by the words %s, want %s", short(a), by, want)
	}
	if got, e := schema.Write(a); got != want || e != api.OK {
		t.Errorf("Write(%s): %s, %v; want %s", short(a), got, e, want)
	}
	checkWritten(t, a)
}

// checkWritten holds Document and Write to the words, and to the rules of memory.
func checkWritten(t *testing.T, a api.Type) {
	t.Helper()
	want := documentBy(a)
	given := specimen.RoomyType(a)
	got, e := schema.Document(given)
	if !specimen.Alike(got, want) || e != api.OK {
		t.Errorf("Document(%s): %s, %v; want %s", short(a), plain(got), e, plain(want))
	}
	text, _ := writer.Text(want)
	if written, e := schema.Write(given); written != text || e != api.OK {
		t.Errorf("Write(%s): %.1000s, %v; want %.1000s", short(a), written, e, text)
	}
	if !specimen.PlacesOf(got).Apart(specimen.PlacesOfTypes(given)) {
		t.Errorf("Document(%s): memory that isn't its own", short(a))
	}
	specimen.Scribble(got)
	if !specimen.UntouchedType(given, a) {
		t.Errorf("Document(%s): the type was changed", short(a))
	}
}

func TestP15_3Rows(t *testing.T) {
	ab := []string{"a", "b"}
	for _, r := range []struct {
		a    api.Type
		want string
	}{
		{never, `false`}, {every, `true`}, {null, `{"enum":[null]}`}, {api.Type{False: true}, `{"enum":[false]}`}, {truth, `{"enum":[true]}`}, {api.Type{Null: true, False: true, True: true}, `{"enum":[null,false,true]}`}, {texts("a"), `{"enum":["a"]}`}, {texts("", "a", "é"), `{"enum":["","a","é"]}`}, {with(truth, texts("\n", "x")), `{"enum":[true,"\n","x"]}`}, {with(with(null, truth), texts("false")), `{"enum":[null,true,"false"]}`},
		{anyNumber, `{"type":"integer"}`}, {nums("3", ""), `{"minimum":3,"type":"integer"}`}, {nums("", "-3"), `{"maximum":-3,"type":"integer"}`}, {nums("0", "0"), `{"maximum":0,"minimum":0,"type":"integer"}`}, {nums("-100000000000000000000", "7"), `{"maximum":7,"minimum":-100000000000000000000,"type":"integer"}`}, {anyText, `{"type":"string"}`},
		{anyArray, `{"type":"array"}`}, {arrays(never, 0, 0), `{"maxItems":0,"type":"array"}`}, {arrays(every, 1, -1), `{"minItems":1,"type":"array"}`}, {arrays(every, 0, 3), `{"maxItems":3,"type":"array"}`}, {arrays(every, 2, 2), `{"maxItems":2,"minItems":2,"type":"array"}`}, {arrays(null, 0, -1), `{"items":{"enum":[null]},"type":"array"}`}, {arrays(null, 1, 9), `{"items":{"enum":[null]},"maxItems":9,"minItems":1,"type":"array"}`}, {arrays(laid, 0, -1), `{"items":{"anyOf":[{"enum":[null,false,true]},{"type":"integer"},{"type":"string"},{"type":"array"},{"type":"object"}]},"type":"array"}`}, {arrays(every, 9223372036854775807, -1), `{"minItems":9223372036854775807,"type":"array"}`},
		{anyObject, `{"type":"object"}`}, {objects(api.Obj{}), `{"additionalProperties":false,"type":"object"}`}, {objects(objOf(null, nil)), `{"additionalProperties":{"enum":[null]},"type":"object"}`}, {objects(objOf(every, ab[:1], null)), `{"properties":{"a":{"enum":[null]}},"type":"object"}`}, {objects(objOf(every, []string{"a!"}, every)), `{"properties":{"a":true},"required":["a"],"type":"object"}`}, {objects(objOf(every, ab, never, every)), `{"properties":{"a":false,"b":true},"type":"object"}`}, {objects(objOf(never, []string{"!", "a", "b!"}, null, never, truth)), `{"additionalProperties":false,"properties":{"":{"enum":[null]},"a":false,"b":{"enum":[true]}},"required":["","b"],"type":"object"}`},
		{objects(objOf(every, nil), objOf(never, nil), objOf(every, nil)), `{"anyOf":[{"type":"object"},{"additionalProperties":false,"type":"object"},{"type":"object"}]}`},
		{laid, `{"anyOf":[{"enum":[null,false,true]},{"type":"integer"},{"type":"string"},{"type":"array"},{"type":"object"}]}`}, {with(null, anyText), `{"anyOf":[{"enum":[null]},{"type":"string"}]}`}, {with(texts("a"), nums("1", "")), `{"anyOf":[{"enum":["a"]},{"minimum":1,"type":"integer"}]}`}, {with(anyText, anyNumber), `{"anyOf":[{"type":"integer"},{"type":"string"}]}`}, {with(anyObject, with(anyArray, anyText)), `{"anyOf":[{"type":"string"},{"type":"array"},{"type":"object"}]}`},
		{arrays(arrays(with(null, anyNumber), 0, 0+1), 0, -1), `{"items":{"items":{"anyOf":[{"enum":[null]},{"type":"integer"}]},"maxItems":1,"type":"array"},"type":"array"}`}, {objects(objOf(arrays(never, 0, 0), ab[:1], objects(api.Obj{}))), `{"additionalProperties":{"maxItems":0,"type":"array"},"properties":{"a":{"additionalProperties":false,"type":"object"}},"type":"object"}`},
	} {
		isWritten(t, r.a, r.want)
		checkWritten(t, specimen.EmptyListed(r.a))
		for _, around := range specimen.AroundType(r.a) {
			if !specimen.IsNever(r.a) {
				checkWritten(t, around)
			}
		}
	}
	for _, around := range []api.Obj{objOf(never, ab, never, every), objOf(null, ab, never, null), objOf(never, []string{"a"}, truth), objOf(every, []string{"a!", "b"}, every, never)} {
		checkWritten(t, arrays(objects(around, around), 0, 1))
	}
}

func TestP15_3Drawn(t *testing.T) {
	pick := random(153)
	for _, a := range specimen.WellShapedTypes(pick, 500) {
		checkWritten(t, a)
	}
	for range 200 {
		checkWritten(t, specimen.CrowdedType(pick, 2))
	}
}

func TestP15_3Wrong(t *testing.T) {
	for _, wrong := range specimen.WrongTypes() {
		given := specimen.RoomyType(wrong)
		v, e := schema.Document(given)
		s, too := schema.Write(given)
		if e != api.ErrShape || too != api.ErrShape || s != "" || !specimen.Alike(v, api.Value{}) {
			t.Errorf("%s: %s, %v; %q, %v", short(wrong), plain(v), e, s, too)
		}
		if !specimen.UntouchedType(given, wrong) {
			t.Errorf("%s was changed", short(wrong))
		}
	}
}
