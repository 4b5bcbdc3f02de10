package schema_test

import (
	"slices"
	"strings"
	"testing"

	"hallmark/api"
	"hallmark/reader"
	"hallmark/schema"
	"hallmark/specimen"
	"hallmark/utf"
)

// isRead holds Read to an answer.
func isRead(t *testing.T, s string, of api.Type, at int, e api.Errno) {
	t.Helper()
	got, place, err := schema.Read(s)
	if !specimen.AlikeTypes(got, of) || place != at || err != e {
		t.Errorf("Read(%.300q): %s, %d, %v; want %s, %d, %v", s, short(got), place, err, short(of), at, e)
	}
	if !specimen.OwnType(got) {
		t.Errorf("Read(%.300q): memory that isn't its own", s)
	}
}

// page is a text of JSON while it is laid, and the places of all parts by their ways.
type page struct {
	strings.Builder
	pick   specimen.Source
	places map[string]int
}

// lay is a text that says a value, with blanks, keys in any order and escapes here and there.
func lay(v api.Value, pick specimen.Source) page {
	out := page{pick: pick, places: map[string]int{}}
	out.value(v, nil)
	out.blanks()
	return out
}

func (p *page) blanks() {
	for range p.pick(3) {
		p.WriteString([...]string{" ", "\n", "\t", "\r\n"}[p.pick(4)])
	}
}

// text lays a text; some of its runes are told by their numbers.
func (p *page) text(s string) {
	p.WriteString(`"`)
	for _, r := range s {
		if p.pick(4) == 0 {
			p.WriteString(utf.Escaped(r))
		} else {
			quoted := utf.Quote(string(r))
			p.WriteString(quoted[1 : len(quoted)-1])
		}
	}
	p.WriteString(`"`)
}

func (p *page) value(v api.Value, way []api.Value) {
	p.blanks()
	p.places[told(said{way: way})] = p.Len()
	switch v.Kind {
	case api.Text:
		p.text(v.Text)
	case api.Array:
		p.WriteString("[")
		for i, item := range v.Items {
			p.comma(i)
			p.value(item, append(slices.Clone(way), index(i)))
		}
		p.blanks()
		p.WriteString("]")
	case api.Object:
		p.WriteString("{")
		order := make([]int, len(v.Keys))
		for i := range order {
			k := p.pick(i + 1)
			order[i], order[k] = order[k], i
		}
		for i, at := range order {
			p.comma(i)
			p.blanks()
			p.text(v.Keys[at])
			p.blanks()
			p.WriteString(":")
			p.value(v.Items[at], append(slices.Clone(way), specimen.Text(v.Keys[at])))
		}
		p.blanks()
		p.WriteString("}")
	default:
		p.WriteString(plain(v))
	}
}

// comma lays what stands ahead of an element that isn't the first.
func (p *page) comma(i int) {
	p.blanks()
	if i > 0 {
		p.WriteString(",")
	}
}

// reads holds Read to what is to be answered of a value, however the value is laid.
func reads(t *testing.T, v api.Value, want said, pick specimen.Source) {
	t.Helper()
	for range 3 {
		laid := lay(v, pick)
		if back, e, _ := reader.One(laid.String()); e != api.OK || !specimen.Alike(back, v) {
			t.Fatalf("%s is laid as %s", plain(v), laid.String())
		}
		at := 0
		if want.e != api.OK {
			at = laid.places[told(said{way: want.way})]
		}
		isRead(t, laid.String(), want.of, at, want.e)
	}
}

func TestP15_2Rows(t *testing.T) {
	for _, r := range []struct {
		s  string
		of api.Type
		at int
		e  api.Errno
	}{
		{` true`, every, 0, api.OK}, {"\n false ", never, 0, api.OK}, {`{"type" : "null"} `, null, 0, api.OK}, {` 7`, never, 1, api.ErrSchema}, {`"x"`, never, 0, api.ErrSchema}, {"\t\r\n[ ]", never, 3, api.ErrSchema}, {`null`, never, 0, api.ErrSchema},
		{` {"anyOf":[true, 5]}`, never, 17, api.ErrSchema}, {`{"a":1}`, never, 5, api.ErrKeyword}, {`{"a" : 1}`, never, 7, api.ErrKeyword}, {`{"type":"text"}`, never, 8, api.ErrGiven}, {`{"type":[ "null" , "null" ]}`, never, 19, api.ErrGiven}, {` {"enum":[1,3]}`, never, 1, api.ErrMany}, {`{"items":  {"enum":[1,3]}}`, never, 11, api.ErrMany},
		{`{"\u0061":{"a":1} }`, never, 10, api.ErrKeyword}, {`{"title":"a\u0000\"","type" : [7]}`, never, 31, api.ErrGiven}, {`{"title":"é","a":1}`, never, 18, api.ErrKeyword}, {`{"title":"}","description":"{[","type":0}`, never, 39, api.ErrGiven}, {`{"title":"a","$comment":[],"a":1}`, never, 24, api.ErrGiven},
		{`{"properties":{"x":{"title":"items"},"items":{"items":[]}}}`, never, 54, api.ErrSchema}, {`{"properties":{"b":{"title":""},"a":{"required":["b","a","b"]}}}`, never, 57, api.ErrGiven}, {`{"required":["required","a"],"items":{"required":[[[]],[]]}}`, never, 50, api.ErrGiven},
		{`{"anyOf":[{"enum":[[1,[2]]]},7]}`, never, 19, api.ErrGiven}, {`{"anyOf":[{"enum":["]",{},1]},7]}`, never, 23, api.ErrGiven}, {`{"anyOf":[{"enum":["]","["]},{"title":"}{"},7]}`, never, 44, api.ErrSchema}, {`{"anyOf":[true,{"properties":{"a":{},"b":{"properties":{}},"c":[]}}]}`, never, 63, api.ErrSchema},
		{`{"title":"\"a\"","a":"title","\\":2}`, never, 34, api.ErrKeyword}, {`{"type":"null","properties":{"type":{"type":"x"}}}`, never, 44, api.ErrGiven},
	} {
		isRead(t, r.s, r.of, r.at, r.e)
	}
}

// What the reader refuses is told with its place, whatever else is at fault.
func TestP15_2Refused(t *testing.T) {
	for _, s := range []string{"", " ", "{", "[", `{"a"`, `{"type":`, `{"a":1,}`, `{"a":1,"a":2}`, `{"a":1,"\u0061":true}`, `[1.5]`, `7 x`, `true false`, `true 1`, `nul`, `{"a":1}]`, "\xff", `"\ud800"`, `{"items":` + strings.Repeat("[", 64) + strings.Repeat("]", 64) + "}", strings.Repeat(`{"items":`, 65), `{"minimum":1.5}`, `{"enum":[01]}`, `true,`, `{"anyOf":[5,]}`, "{\"title\":\"\n\"}"} {
		_, e, at := reader.One(s)
		if e == api.OK {
			t.Fatalf("%q is read", s)
		}
		isRead(t, s, never, at, e)
	}
	isRead(t, `{"type":`, never, 8, api.ErrEnd)
	isRead(t, `{"a":1,"a":2}`, never, 7, api.ErrTwice)
	isRead(t, strings.Repeat(`{"items":`, 65), never, 64*9, api.ErrDeep)
}

// Documents as deep as may be read.
func TestP15_2Deep(t *testing.T) {
	nest := func(deep int, inside string) string {
		return strings.Repeat(`{"anyOf": [`, deep) + inside + strings.Repeat(`]}`, deep)
	}
	isRead(t, nest(32, "true"), every, 0, api.OK)
	isRead(t, nest(31, `{"type":["null"]}`), null, 0, api.OK)
	isRead(t, nest(32, "7"), never, 32*11, api.ErrSchema)
	isRead(t, nest(31, `{"type": [7]}`), never, 31*11+10, api.ErrGiven)
	isRead(t, nest(32, "{}"), never, 32*11, api.ErrDeep)
	items := func(deep int) string { return strings.Repeat(`{"items":`, deep) + "7" + strings.Repeat("}", deep) }
	isRead(t, items(64), never, 64*9, api.ErrSchema)
	isRead(t, items(65), never, 64*9, api.ErrDeep)
}

// Any bytes are read, or refused with a place in them.
func TestP15_2AnyBytes(t *testing.T) {
	pick := random(152)
	parts := []string{"{", "}", "[", "]", ":", ",", `"type"`, `"anyOf"`, `"enum"`, `"a"`, `"null"`, "1", "true", "false", "null", " ", "\"", "\\", "x", "\x00", `"items"`, `"properties"`, "\xff"}
	for range 30000 {
		var s strings.Builder
		for range pick(12) {
			s.WriteString(parts[pick(len(parts))])
		}
		anyBytes(t, s.String())
	}
}

// anyBytes holds Read of any text to reader.One and Of.
func anyBytes(t *testing.T, s string) {
	t.Helper()
	v, e, at := reader.One(s)
	if e != api.OK {
		isRead(t, s, never, at, e)
		return
	}
	of, way, err := schema.Of(v)
	got, place, e := schema.Read(s)
	if e != err || !specimen.AlikeTypes(got, of) || e == api.OK && place != 0 || place < 0 || place > len(s) {
		t.Errorf("Read(%q): %s, %d, %v; Of: %s, %v, %v", s, short(got), place, e, short(of), way, err)
		return
	}
	if e != api.OK {
		beginsPart(t, s, place, v, way)
	}
}

// beginsPart holds that what stands at a place of a text begins with what the part at the end of a way says.
func beginsPart(t *testing.T, s string, place int, v api.Value, way []api.Value) {
	t.Helper()
	for _, step := range way {
		if step.Kind == api.Text {
			v, _ = get(v, step.Text)
		} else {
			v = v.Items[whole(step.Num).Int64()]
		}
	}
	for end := place + 1; end <= len(s); end++ {
		if part, e, _ := reader.One(s[place:end]); e == api.OK && specimen.Alike(part, v) {
			return
		}
	}
	t.Errorf("%q at %d isn't %s", s, place, plain(v))
}
