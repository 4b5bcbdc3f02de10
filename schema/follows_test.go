package schema_test

import (
	"fmt"
	"slices"
	"strconv"
	"strings"
	"testing"

	"hallmark/api"
	"hallmark/member"
	"hallmark/schema"
	"hallmark/shape"
	"hallmark/specimen"
	"hallmark/value"
)

// Documents that are drawn, some of them at fault, held to the words, as values and as texts.
func TestP15_1Drawn(t *testing.T) {
	t.Parallel()
	pick := random(151)
	found := map[api.Errno]int{}
	for i := range 16000 {
		doc := drawing{pick, [...]int{0, 4, 12, 30}[i%4]}.doc(1 + pick(3))
		want := wordsOf(doc)
		found[want.e]++
		answers(t, doc, want)
		reads(t, doc, want, pick)
	}
	for _, e := range []api.Errno{api.OK, api.ErrSchema, api.ErrKeyword, api.ErrGiven, api.ErrMany} {
		if found[e] < 400 {
			t.Errorf("of the error %d there are %d", e, found[e])
		}
	}
}

// allowed holds a type to have just those values that a document allows: drawn ones, and some at its edges.
func allowed(t *testing.T, doc api.Value, of api.Type, pick specimen.Source) {
	t.Helper()
	all := []api.Value{specimen.Drawn(pick, 2), specimen.Drawn(pick, 3), {}, specimen.List(), specimen.Object(nil)}
	for range 6 {
		for _, near := range []api.Type{of, specimen.NudgedType(of, pick), specimen.NudgedType(specimen.NudgedType(of, pick), pick)} {
			if v, ok := specimen.DrawnOf(near, pick, specimen.Kinds()...); ok && value.Weight(v) < 10000 {
				all = append(all, v)
			}
		}
	}
	for _, v := range all {
		in, e := member.In(v, of)
		if in != allows(doc, v) || in != specimen.In(v, of) || e != api.OK {
			t.Errorf("%s allows %s: %v; it is of %s: %v", plain(doc), plain(v), allows(doc, v), short(of), in)
		}
	}
}

func TestP15_4Allowed(t *testing.T) {
	t.Parallel()
	pick := random(154)
	for range 4000 {
		doc := drawing{pick, 0}.doc(1 + pick(3))
		if of, _, e := schema.Of(doc); e == api.OK {
			allowed(t, doc, of, pick)
		}
	}
	for _, a := range specimen.WellShapedTypes(pick, 300) {
		doc, _ := schema.Document(a)
		allowed(t, doc, a, pick)
	}
}

// Remarks say nothing, and change no fault.
func TestP15_4Remarks(t *testing.T) {
	t.Parallel()
	pick := random(155)
	for i := range 3000 {
		doc := drawing{pick, [...]int{0, 15}[i%2]}.doc(1 + pick(3))
		var a, b said
		a.of, a.way, a.e = schema.Of(doc)
		b.of, b.way, b.e = schema.Of(withRemarks(doc, pick))
		if a.e == api.ErrGiven && slices.ContainsFunc(a.way, func(step api.Value) bool {
			return strings.Contains("title description $comment", step.Text) && step.Text != ""
		}) {
			continue // a remark that is at fault itself
		}
		if !alike(a, b) {
			t.Errorf("%s: %s; with remarks: %s", plain(doc), told(a), told(b))
		}
	}
}

// countsIn says whether no number of items in a type is greater than a document may say.
func countsIn(a api.Type) bool {
	right := true
	for _, arr := range a.Arrays {
		right = right && arr.Min <= 2147483647 && arr.Max <= 2147483647
	}
	specimen.WithInner(a, func(in api.Type) api.Type { right = right && countsIn(in); return in })
	return right
}

// back holds the document of a type, and its text, to be read as that type, or to be refused, if it is beyond a limit.
func back(t *testing.T, a api.Type) bool {
	t.Helper()
	doc, _ := schema.Document(a)
	of, way, e := schema.Of(doc)
	same := e == api.OK && shape.Same(of, a) && specimen.AlikeTypes(of, a) && len(way) == 0
	right := within(a, api.MaxHeight) && countsIn(a)
	if same != right || !right && e != api.ErrMany && e != api.ErrGiven {
		t.Errorf("Of(Document(%s)): %s", short(a), told(said{of, way, e}))
	}
	text, _ := schema.Write(a)
	got, at, e := schema.Read(text)
	same = e == api.OK && shape.Same(got, a) && specimen.AlikeTypes(got, a) && at == 0
	if deep := value.Depth(doc) > api.MaxDepth; same != right && !deep || deep && e != api.ErrDeep {
		t.Errorf("Read(Write(%s)): %s, %d, %v", short(a), short(got), at, e)
	}
	return right
}

func TestP15_4ThereAndBack(t *testing.T) {
	t.Parallel()
	pick := random(156)
	all := specimen.WellShapedTypes(pick, 800)
	for range 300 {
		all = append(all, specimen.CrowdedType(pick, 1+pick(2)))
	}
	for range 300 {
		all = append(all, specimen.Nest(with(null, specimen.Single(specimen.DrawnType(pick, 3))), 4+pick(4)))
	}
	var right, beyond int
	for _, a := range all {
		for _, one := range []api.Type{a, specimen.NudgedType(a, pick), specimen.EmptyListed(a)} {
			if back(t, one) {
				right++
			} else {
				beyond++
			}
		}
	}
	if right < 1500 || beyond < 200 {
		t.Errorf("%d within the limits, %d beyond them", right, beyond)
	}
}

// Types at each limit, and one beyond it, alone and inside others.
func TestP15_4Limits(t *testing.T) {
	four := slices.Repeat([]api.Obj{objOf(null, []string{"a!"}, truth)}, 4)
	full := with(with(laid, objects(specimen.Wide(12, null, true, never))), objects(four[:2]...))
	for i, r := range []struct {
		a  api.Type
		is bool
	}{
		{texts(specimen.Named(16)...), true}, {texts(specimen.Named(17)...), false}, {objects(specimen.Wide(12, null, true, never)), true}, {objects(specimen.Wide(13, null, true, never)), false}, {objects(specimen.Wide(13, every, false, every)), false}, {objects(four...), true}, {objects(append(slices.Clone(four), four[0])...), false}, {specimen.Nest(null, 8), true}, {specimen.Nest(null, 9), false}, {specimen.Nest(every, 8), true}, {specimen.Nest(arrays(never, 0, 0), 7), true}, {specimen.Nest(arrays(never, 0, 0), 8), false}, {specimen.NestedType(null, 8), true}, {specimen.NestedType(null, 9), false},
		{arrays(null, 2147483647, -1), true}, {arrays(null, 0, 2147483647), true}, {arrays(null, 2147483647, 2147483647), true}, {arrays(null, 2147483648, -1), false}, {arrays(null, 0, 2147483648), false}, {arrays(null, 9223372036854775807, -1), false}, {arrays(null, 0, 9223372036854775807), false}, {full, true}, {specimen.Nest(full, 7), true}, {specimen.Nest(full, 8), false}, {never, true}, {every, true}, {laid, true},
	} {
		if back(t, r.a) != r.is {
			t.Errorf("%d: %s", i, short(r.a))
		}
		if around := objects(objOf(null, []string{"a"}, null), objOf(never, []string{"a"}, r.a)); shape.Height(r.a) < 8 && back(t, around) != r.is {
			t.Errorf("%d, inside: %s", i, short(r.a))
		}
	}
}

// A document, or its text, that is just as deep as may be read, and one deeper.
func TestP15_4Depth(t *testing.T) {
	for deep := range 70 {
		a := specimen.Nest(null, deep) // its document is deeper by two
		back(t, a)
		_, _, e := schema.Read(first(schema.Write(a)))
		if want := [...]api.Errno{api.ErrMany, api.ErrDeep}[min(deep/63, 1)]; deep > 8 && e != want || deep <= 8 && e != api.OK {
			t.Errorf("%d deep: %v", deep, e)
		}
	}
}

func first(s string, _ api.Errno) string { return s }

// A type that one document says at many places is told at each of them in memory of its own.
func TestShared(t *testing.T) {
	wide := func(rest string) string {
		return `{"type":["object","array"],"required":[` + listed(12) + `],"additionalProperties":` + rest + `}`
	}
	doc := `{"enum":["a",1]}`
	for range 3 {
		doc = wide(doc)
		check(t, js(doc))
		check(t, js(`{"type":"array","items":`+doc+`}`))
	}
	for range 2 {
		doc = wide(doc)
	}
	of, _, e := schema.Of(js(doc))
	if parts := specimen.PartsOf(of); e != api.OK || parts != 371293+30941*2 {
		t.Errorf("%d parts, %v", parts, e)
	}
	for range 3 { // so high that there are 13 ** 8 places, none of which is asked for
		doc = wide(doc)
	}
	if of, way, e := schema.Of(js(wide(doc))); e != api.ErrMany || len(way) > 0 {
		t.Errorf("%s, %v, %v", short(of), way, e)
	}
	if of, way, e := schema.Of(js(wide(wide(wide(doc))))); e != api.ErrMany || plain(specimen.List(way...)) != `["additionalProperties","additionalProperties"]` {
		t.Errorf("%s, %v, %v", short(of), way, e)
	}
}

// The same calls at once, of the same things.
func TestSameness(t *testing.T) {
	pick := random(157)
	var docs []api.Value
	var pages []string
	for range 60 {
		docs = append(docs, drawing{pick, 20}.doc(3))
		laid := lay(docs[len(docs)-1], pick)
		pages = append(pages, laid.String())
	}
	types := specimen.WellShapedTypes(pick, 30)
	if !specimen.AtOnce(func() string {
		var out []byte
		for i, doc := range docs {
			of, way, e := schema.Of(doc)
			again, at, err := schema.Read(pages[i])
			out = fmt.Append(out, of, way, e, again, at, err)
		}
		for _, a := range types {
			doc, e := schema.Document(a)
			text, err := schema.Write(a)
			out = fmt.Append(out, doc, e, text, err)
		}
		return string(out)
	}) {
		t.Error("another answer")
	}
}

const deepest = 1<<16 - 2

// Documents and types as deep as they may be.
func TestDeep(t *testing.T) {
	doc := specimen.Kind(api.True)
	for range deepest {
		doc = specimen.Object([]string{"items"}, doc)
	}
	of, way, e := schema.Of(doc)
	if e != api.ErrMany || len(way) != deepest-9 || !specimen.IsNever(of) {
		t.Errorf("%s, %d steps, %v", short(of), len(way), e)
	}
	doc = js(`{"type":"null"}`)
	for range deepest / 2 {
		doc = specimen.Object([]string{"anyOf"}, specimen.List(doc))
	}
	if of, way, e := schema.Of(doc); e != api.OK || !specimen.AlikeTypes(of, null) || len(way) > 0 {
		t.Errorf("%s, %d steps, %v", short(of), len(way), e)
	}
	doc = specimen.Kind(api.Null)
	for range deepest / 2 {
		doc = specimen.Object([]string{"properties"}, specimen.Object([]string{"x"}, doc))
	}
	if of, way, e := schema.Of(doc); e != api.ErrSchema || len(way) != deepest || !specimen.IsNever(of) {
		t.Errorf("%s, %d steps, %v", short(of), len(way), e)
	}
	a := specimen.Nest(null, deepest)
	doc, e = schema.Document(a)
	text, err := schema.Write(a)
	if want := strings.Repeat(`{"items":`, deepest) + `{"enum":[null]}` + strings.Repeat(`,"type":"array"}`, deepest); e != api.OK || err != api.OK || text != want || value.Depth(doc) != deepest+2 {
		t.Errorf("%v, %v: %d bytes, %d deep", e, err, len(text), value.Depth(doc))
	}
	if _, at, e := schema.Read(text); e != api.ErrDeep || at != 64*9 {
		t.Errorf("%d, %v", at, e)
	}
}

// numbered are so many documents, each made of its number.
func numbered(many int, one func(i int) string) []string {
	out := make([]string, many)
	for i := range out {
		out[i] = one(i)
	}
	return out
}

// isLong holds Of to an answer, where the words would take long.
func isLong(t *testing.T, doc string, want api.Type, e api.Errno, way ...api.Value) {
	t.Helper()
	var got said
	got.of, got.way, got.e = schema.Of(js(doc))
	if !alike(got, said{want, way, e}) {
		t.Errorf("%.200s: %s", doc, told(got))
	}
}

// Long lists: none is gone through again for each of its elements.
func TestLong(t *testing.T) {
	const many = 1 << 17
	pick := random(158)
	name := func(i int) string { return `"` + strconv.Itoa(i) + `"` }
	names := strings.Join(numbered(many, name), ",")
	isLong(t, `{"type":"object","required":[`+names+`]}`, never, api.ErrMany)
	isLong(t, `{"type":"null","required":[`+names+`]}`, null, api.OK)
	isLong(t, `{"required":[`+names+`,"0"]}`, never, api.ErrGiven, specimen.Text("required"), index(many))
	isLong(t, `{"type":"object","additionalProperties":false,"required":[`+names+`]}`, never, api.OK)
	isLong(t, `{"enum":[`+names+`]}`, never, api.ErrMany)
	order := numbered(many, strconv.Itoa)
	for i := range order {
		k := pick(i + 1)
		order[i], order[k] = order[k], order[i]
	}
	isLong(t, `{"enum":[`+strings.Join(order, ",")+`]}`, nums("0", strconv.Itoa(many-1)), api.OK)
	isLong(t, `{"enum":[`+strings.Join(order, ",")+`,`+strconv.Itoa(many+1)+`]}`, never, api.ErrMany)
	fields := strings.Join(numbered(many, func(i int) string { return name(i) + `:{"enum":[1]}` }), ",")
	isLong(t, `{"type":"object","properties":{`+fields+`}}`, never, api.ErrMany)
	isLong(t, `{"type":"object","properties":{`+fields+`,"z":false},"required":["z"]}`, never, api.OK)
	each := func(one func(i int) string, more ...string) string {
		return either(strings.Join(append(numbered(many, one), more...), ","))
	}
	text := func(i int) string { return `{"enum":[` + name(i) + `]}` }
	isLong(t, each(text), never, api.ErrMany)
	isLong(t, each(text, `{"type":"string"}`), anyText, api.OK)
	isLong(t, each(text, `true`), every, api.OK)
	isLong(t, each(func(i int) string { return `{"enum":[` + strconv.Itoa(i) + `]}` }), nums("0", strconv.Itoa(many-1)), api.OK)
	isLong(t, each(func(i int) string {
		return `{"type":"array","minItems":` + strconv.Itoa(i+1) + `,"maxItems":` + strconv.Itoa(i+1) + `}`
	}), arrays(every, 1, many), api.OK)
	isLong(t, each(func(int) string { return `{"type":"object"}` }), never, api.ErrMany)
	isLong(t, each(func(int) string { return `{}` }, `7`), never, api.ErrSchema, specimen.Text("anyOf"), index(many))
	digits := strings.Repeat("9", 1<<20)
	isLong(t, either(`{"type":"integer","minimum":1`+strings.Repeat("0", 1<<20)+`}`, `{"type":"integer","maximum":`+digits+`}`), anyNumber, api.OK)
	wide := objects(specimen.Wide(100000, null, true, null))
	doc, e := schema.Document(wide)
	if asked, _ := get(doc, "required"); e != api.OK || len(asked.Items) != 100000 || !specimen.Alike(doc, documentBy(wide)) {
		t.Errorf("%d names, %v", len(asked.Items), e)
	}
	checkWritten(t, texts(specimen.Named(100000)...))
}

// FuzzAny holds all calls to the words and to what follows, on documents and types that are drawn by the bytes, and Read on the bytes themselves.
func FuzzAny(f *testing.F) {
	for _, s := range []string{"", `{"anyOf":[{"type":"null"},{"enum":["a",3]}]}`, `{"type":["array","object"],"items":{"minimum":2},"properties":{"a":true},"required":["a","b"]}`, "\x07\x01\x00\x01\x02\x00\x03\x04\x01\x02\x01\x02\x00\x02\x01\x01\x01\x02", "\x02\x01\x01\x01\x01\x01\x00\x01\x00\x02\x07\x05\x04\x03\x02\x01\x06\x05\x04\x03\x02\x01"} {
		f.Add([]byte(s))
	}
	f.Fuzz(func(t *testing.T, data []byte) {
		if len(data) < 400 {
			anyBytes(t, string(data))
		}
		pick := specimen.Picks(data)
		doc := drawing{pick, [...]int{0, 9, 25}[pick(3)]}.doc(1 + pick(3))
		want := wordsOf(doc)
		answers(t, doc, want)
		reads(t, doc, want, pick)
		if want.e == api.OK {
			allowed(t, doc, want.of, pick)
		}
		a := [...]func(specimen.Source, int) api.Type{specimen.DrawnType, specimen.CrowdedType}[pick(2)](pick, 1+pick(3))
		checkWritten(t, a)
		back(t, specimen.NudgedType(a, pick))
		if _, e := schema.Document(specimen.SpoiltType(a, pick)); e != api.ErrShape {
			t.Errorf("not well shaped: %v", e)
		}
		if of, way, e := schema.Of(specimen.Spoilt(doc, pick)); e != api.ErrShape || len(way) > 0 || !specimen.IsNever(of) {
			t.Errorf("not well shaped: %s", told(said{of, way, e}))
		}
	})
}
