package schema_test

import (
	"testing"

	"hallmark/api"
	"hallmark/specimen"
)

// either is the document of which each of some others may hold.
func either(docs ...string) string {
	out := ""
	for i, doc := range docs {
		if i > 0 {
			out += ","
		}
		out += doc
	}
	return `{"anyOf":[` + out + `]}`
}

// isEither holds the document of two, either way round, to a type (their order doesn't count).
func isEither(t *testing.T, a, b string, want api.Type) {
	t.Helper()
	isType(t, either(a, b), want)
	isType(t, either(b, a), want)
	isType(t, either(`false`, either(a), `false`, b, a), want)
	isType(t, either(b, either(a, b)), want)
}

// isBroad holds the document of two, either way round, to be too broad.
func isBroad(t *testing.T, a, b string) {
	t.Helper()
	isFault(t, either(a, b), `[]`, api.ErrMany)
	isFault(t, either(b, a), `[]`, api.ErrMany)
	isFault(t, either(`false`, a, `{"type":["string","null","object"]}`, b, `true`, a), `[]`, api.ErrMany)
	isFault(t, either(a, either(b), `{}`), `[]`, api.ErrMany)
	isType(t, either(a, `true`, b), every)
	isType(t, either(`{}`, b, a), every)
}

func TestP15_1AnyOfFlags(t *testing.T) {
	isType(t, either(`{"type":"null"}`), null)
	isType(t, either(`false`), never)
	isType(t, either(`false`, `false`), never)
	isEither(t, `{"type":"null"}`, `{"enum":[true]}`, with(null, truth))
	isEither(t, `{"type":"null"}`, `{"type":"boolean"}`, api.Type{Null: true, False: true, True: true})
	isEither(t, `{"enum":[false]}`, `{"enum":[false,true]}`, api.Type{False: true, True: true})
	isEither(t, `true`, `{"type":"null"}`, every)
	isEither(t, `true`, `false`, every)
	isEither(t, `{"title":"any"}`, `{"type":["array","object"]}`, every)
	isEither(t, `false`, `{"type":["array","integer"]}`, with(anyArray, anyNumber))
	isType(t, either(`{"type":["null","boolean","number"]}`, `{"type":["string","array","object"]}`), laid)
	isType(t, either(`{"type":["string","array","object"]}`, `{"type":["null","boolean","number"]}`), laid)
	isType(t, either(`{"minimum":3}`, `{"type":"null"}`), with(api.Type{Null: true, False: true, True: true}, with(with(nums("3", ""), anyText), with(anyArray, anyObject))))
}

func TestP15_1AnyOfTexts(t *testing.T) {
	isEither(t, `{"enum":["b","d"]}`, `{"enum":["c","b","a"]}`, texts("a", "b", "c", "d"))
	isEither(t, `{"enum":["b"]}`, `{"type":"string"}`, anyText)
	isEither(t, `{"enum":[""]}`, `{"enum":[null]}`, with(null, texts("")))
	isEither(t, `{"type":"string"}`, `{"type":"string"}`, anyText)
	isType(t, either(`{"enum":["z"]}`, `{"enum":["a"]}`, `{"enum":["\u00e9","m"]}`, `{"enum":["a"]}`), texts("a", "m", "z", "é"))
	isType(t, either(`{"enum":["z"]}`, `{"type":"string"}`, `{"enum":["a"]}`), anyText)
}

func TestP15_1AnyOfSpans(t *testing.T) {
	const of = `{"type":"integer",`
	low, high := func(n string) string { return `"minimum":` + n }, func(n string) string { return `"maximum":` + n }
	both := func(a, b string) string { return of + low(a) + "," + high(b) + "}" }
	from, to := func(n string) string { return of + low(n) + "}" }, func(n string) string { return of + high(n) + "}" }
	for _, r := range []struct {
		a, b string
		want api.Type
	}{
		{both("1", "3"), both("3", "5"), nums("1", "5")}, {both("1", "3"), both("2", "5"), nums("1", "5")}, {both("1", "3"), both("4", "5"), nums("1", "5")}, {both("1", "9"), both("4", "5"), nums("1", "9")}, {both("1", "1"), both("1", "1"), nums("1", "1")}, {both("1", "1"), both("2", "2"), nums("1", "2")}, {both("-1", "-1"), both("0", "0"), nums("-1", "0")}, {both("9", "9"), both("10", "10"), nums("9", "10")}, {both("1", "5"), both("1", "3"), nums("1", "5")}, {both("1", "5"), both("3", "5"), nums("1", "5")},
		{from("1"), both("5", "6"), nums("1", "")}, {from("1"), both("-3", "0"), nums("-3", "")}, {from("1"), both("-3", "1"), nums("-3", "")}, {to("1"), both("2", "3"), nums("", "3")}, {to("1"), both("1", "3"), nums("", "3")}, {to("1"), both("-5", "-3"), nums("", "1")}, {to("3"), from("4"), anyNumber}, {to("3"), from("-4"), anyNumber}, {to("3"), to("1"), nums("", "3")}, {from("3"), from("1"), nums("1", "")}, {`{"type":"integer"}`, both("7", "8"), anyNumber}, {`{"type":"integer"}`, from("7"), anyNumber}, {`{"type":"integer"}`, to("7"), anyNumber},
		{both("99999999999999999998", "99999999999999999999"), both("100000000000000000000", "100000000000000000007"), nums("99999999999999999998", "100000000000000000007")}, {both("-100000000000000000001", "-100000000000000000000"), both("-99999999999999999999", "0"), nums("-100000000000000000001", "0")}, {both("4", "3"), both("7", "7"), nums("7", "7")}, {`{"type":"null"}`, both("7", "8"), with(null, nums("7", "8"))}, {`{"enum":[3,4,"a"]}`, both("5", "6"), with(nums("3", "6"), texts("a"))},
	} {
		isEither(t, r.a, r.b, r.want)
	}
	for _, r := range [][2]string{
		{both("1", "3"), both("5", "6")}, {both("1", "1"), both("3", "3")}, {both("-1", "-1"), both("1", "1")}, {both("9", "9"), both("11", "11")}, {to("3"), from("5")}, {to("3"), both("5", "5")}, {from("3"), both("0", "1")}, {both("1", "3"), both("100000000000000000000", "100000000000000000001")}, {both("99999999999999999998", "99999999999999999999"), both("100000000000000000001", "100000000000000000007")}, {both("-7", "-5"), both("-3", "-3")}, {`{"enum":[1]}`, `{"enum":[3]}`}, {both("8", "9"), both("1", "6")}, {to("-100000000000000000000"), from("7")},
	} {
		isBroad(t, r[0], r[1])
	}
	isType(t, either(both("1", "1"), both("2", "2"), both("3", "3"), both("0", "0")), nums("0", "3"))
	isType(t, either(both("1", "3"), both("2", "2"), both("4", "4")), nums("1", "4"))
	isFault(t, either(both("1", "1"), both("3", "3"), both("2", "2")), `[]`, api.ErrMany)
	isFault(t, either(both("3", "3"), both("2", "2"), both("0", "0"), both("1", "1")), `[]`, api.ErrMany)
}

func TestP15_1AnyOfArrays(t *testing.T) {
	of := func(words string) string { return `{"type":"array"` + words + `}` }
	const nulls, bools = `,"items":{"type":"null"}`, `,"items":{"type":["null","boolean"]}`
	bool3 := api.Type{Null: true, False: true, True: true}
	for _, r := range []struct {
		a, b string
		want api.Type
	}{
		{of(""), of(nulls), anyArray}, {of(bools), of(nulls), arrays(bool3, 0, -1)}, {of(bools), of(nulls + `,"minItems":3`), arrays(bool3, 0, -1)}, {of(bools + `,"minItems":3`), of(nulls + `,"minItems":3,"maxItems":4`), arrays(bool3, 3, -1)}, {of(`,"maxItems":0`), of(nulls), arrays(null, 0, -1)}, {of(`,"maxItems":0`), of(nulls + `,"maxItems":7`), arrays(null, 0, 7)}, {of(`,"maxItems":0`), of(`,"items":false`), arrays(never, 0, 0)}, {of(nulls), of(nulls), arrays(null, 0, -1)},
		{of(nulls + `,"maxItems":2`), of(nulls + `,"minItems":3`), arrays(null, 0, -1)}, {of(nulls + `,"maxItems":2`), of(nulls + `,"minItems":2`), arrays(null, 0, -1)}, {of(nulls + `,"maxItems":2`), of(nulls + `,"minItems":1,"maxItems":5`), arrays(null, 0, 5)}, {of(`,"maxItems":1`), of(`,"minItems":2,"maxItems":3`), arrays(every, 0, 3)}, {of(`,"minItems":1,"maxItems":4`), of(`,"minItems":2,"maxItems":3`), arrays(every, 1, 4)}, {of(`,"minItems":1,"maxItems":1`), of(`,"minItems":2,"maxItems":2`), arrays(every, 1, 2)}, {of(`,"minItems":3`), of(`,"minItems":7`), arrays(every, 3, -1)}, {of(`,"minItems":2147483647`), of(`,"maxItems":2147483646`), anyArray}, {of(`,"minItems":5`), of(`,"minItems":1,"maxItems":4`), arrays(every, 1, -1)},
		{of(nulls + `,"minItems":2,"maxItems":1`), of(bools), arrays(bool3, 0, -1)}, {`{"type":"null"}`, of(nulls), with(null, arrays(null, 0, -1))}, {of(`,"items":{"type":"array"}`), of(`,"items":{"type":"array","items":{"type":"null"}}`), arrays(anyArray, 0, -1)}, {of(`,"items":{"properties":{"a":{"type":"null"}},"type":"object"}`), of(`,"items":{"type":"object"}`), arrays(anyObject, 0, -1)},
	} {
		isEither(t, r.a, r.b, r.want)
	}
	for _, r := range [][2]string{
		{of(nulls), of(`,"minItems":1`)}, {of(nulls), of(`,"items":{"type":"boolean"}`)}, {of(nulls + `,"maxItems":1`), of(nulls + `,"minItems":3`)}, {of(`,"maxItems":1`), of(`,"minItems":3,"maxItems":5`)}, {of(`,"maxItems":0`), of(`,"minItems":1`)}, {of(`,"maxItems":0`), of(nulls + `,"minItems":1,"maxItems":1`)}, {of(nulls + `,"maxItems":5`), of(bools + `,"maxItems":4`)}, {of(nulls + `,"maxItems":2`), of(bools + `,"minItems":1`)}, {of(`,"minItems":2,"maxItems":3`), of(`,"minItems":5`)}, {of(`,"minItems":2147483647`), of(`,"maxItems":2147483645`)}, {of(`,"items":{"enum":[1]}`), of(`,"items":{"enum":[2]}`)}, {of(nulls + `,"minItems":2`), of(bools + `,"minItems":3`)},
	} {
		isBroad(t, r[0], r[1])
	}
	isType(t, either(of(`,"maxItems":1`), of(`,"minItems":2,"maxItems":2`), of(`,"minItems":3`)), anyArray)
	isType(t, either(of(nulls), of(bools), of(""), of(`,"items":{"type":"integer"}`)), anyArray)
	isFault(t, either(of(`,"maxItems":1`), of(`,"minItems":3`), of(`,"minItems":2`)), `[]`, api.ErrMany)
	isFault(t, either(of(nulls), of(`,"items":{"type":"integer"}`), of("")), `[]`, api.ErrMany)
}

// Where each lies in the other the later one stays.
func TestP15_1AnyOfArraysAlike(t *testing.T) {
	const plainOne, all = `{"type":"array"}`, `{"type":"array","items":{"minItems":0}}`
	isType(t, either(plainOne, all), arrays(laid, 0, -1))
	isType(t, either(all, plainOne), anyArray)
	isType(t, either(plainOne, all, plainOne), anyArray)
}

func TestP15_1AnyOfObjects(t *testing.T) {
	a, b, c := objOf(never, []string{"a!"}, null), objOf(every, nil), objOf(null, []string{"a", "b!"}, truth, every)
	docs := []string{`{"type":"object","properties":{"a":{"type":"null"}},"required":["a"],"additionalProperties":false}`, `{"type":"object"}`, `{"type":"object","properties":{"a":{"enum":[true]},"b":true},"required":["b"],"additionalProperties":{"type":"null"}}`}
	all := []api.Obj{a, b, c}
	for order := range specimen.Orders([]int{0, 1, 2}) {
		x, y, z := order[0], order[1], order[2]
		isType(t, either(docs[x], docs[y]), objects(all[x], all[y]))
		isType(t, either(docs[x], docs[y], docs[z]), objects(all[x], all[y], all[z]))
		isType(t, either(either(docs[x], docs[y]), docs[z], docs[x]), objects(all[x], all[y], all[z], all[x]))
		isType(t, either(docs[x], `{"type":"null"}`, docs[x], `false`), with(null, objects(all[x], all[x])))
	}
}
