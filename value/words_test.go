package value_test

import (
	"bytes"
	"encoding/json"
	"maps"
	"math"
	"math/big"
	"math/rand"
	"regexp"
	"slices"
	"strings"
	"unicode/utf8"

	"hallmark/api"
)

// What stands in this file says the words of the document once more, as plainly as they stand there: the tests hold the package against it. Objects are maps here.

var inTens = regexp.MustCompile(`^(0|-?[1-9][0-9]*)$`)

func nothing(v api.Value, num, text, items, keys bool) bool {
	return (!num || v.Num == "") && (!text || v.Text == "") && (!items || len(v.Items) == 0) && (!keys || len(v.Keys) == 0)
}

func formedOf(v api.Value) bool {
	for _, item := range v.Items {
		if !formedOf(item) {
			return false
		}
	}
	switch v.Kind {
	case 0, 1, 2:
		return nothing(v, true, true, true, true)
	case 3:
		return nothing(v, false, true, true, true) && inTens.MatchString(v.Num)
	case 4:
		return nothing(v, true, false, true, true) && utf8.ValidString(v.Text)
	case 5:
		return nothing(v, true, true, false, true)
	case 6:
		rises := slices.IsSorted(v.Keys) && len(fieldsOf(v.Keys, v.Items)) == len(v.Keys)
		return nothing(v, true, true, false, false) && len(v.Keys) == len(v.Items) && rises && utf8.ValidString(strings.Join(v.Keys, "|"))
	}
	return false
}

// fieldsOf takes the later of two items with one name; keys without an item stand beside null.
func fieldsOf(keys []string, items []api.Value) map[string]api.Value {
	out := map[string]api.Value{}
	for i, key := range keys {
		out[key] = api.Value{}
		if i < len(items) {
			out[key] = items[i]
		}
	}
	return out
}

func objectOf(fields map[string]api.Value) api.Value {
	out := object(slices.Sorted(maps.Keys(fields)))
	for _, key := range out.Keys {
		out.Items = append(out.Items, fields[key])
	}
	return out
}

func orderOf(a, b api.Value) int {
	if a.Kind != b.Kind {
		return sign(a.Kind - b.Kind)
	}
	switch a.Kind {
	case api.Number:
		x, _ := new(big.Int).SetString(a.Num, 10)
		y, _ := new(big.Int).SetString(b.Num, 10)
		return x.Cmp(y)
	case api.Text:
		return bytes.Compare([]byte(a.Text), []byte(b.Text))
	case api.Array:
		for i := range min(len(a.Items), len(b.Items)) {
			if side := orderOf(a.Items[i], b.Items[i]); side != 0 {
				return side
			}
		}
		return sign(len(a.Items) - len(b.Items))
	case api.Object:
		if side := orderOf(texts(a.Keys), texts(b.Keys)); side != 0 {
			return side
		}
		return orderOf(list(a.Items...), list(b.Items...))
	}
	return 0
}

func sign(n int) int {
	switch {
	case n < 0:
		return -1
	case n > 0:
		return 1
	}
	return 0
}

func texts(keys []string) api.Value {
	out := list()
	for _, key := range keys {
		out.Items = append(out.Items, text(key))
	}
	return out
}

func weightOf(v api.Value) int {
	weight := 1 + len(strings.TrimPrefix(v.Num, "-")) + len(v.Text)
	for _, key := range v.Keys {
		weight += 1 + len(key)
	}
	for _, item := range v.Items {
		weight += weightOf(item)
	}
	return weight
}

func depthOf(v api.Value) int {
	if v.Kind < api.Array {
		return 0
	}
	depths := []int{0}
	for _, item := range v.Items {
		depths = append(depths, depthOf(item))
	}
	return 1 + slices.Max(depths)
}

func mergeOf(a, b api.Value) api.Value {
	out := fieldsOf(a.Keys, a.Items)
	maps.Copy(out, fieldsOf(b.Keys, b.Items))
	return objectOf(out)
}

func deepOf(a, b api.Value) api.Value {
	out := fieldsOf(a.Keys, a.Items)
	for key, y := range fieldsOf(b.Keys, b.Items) {
		x, both := out[key]
		out[key] = y
		if both && x.Kind == api.Object && y.Kind == api.Object {
			out[key] = deepOf(x, y)
		}
	}
	return objectOf(out)
}

func withoutOf(v api.Value, key string) api.Value {
	out := fieldsOf(v.Keys, v.Items)
	delete(out, key)
	return objectOf(out)
}

// alike says whether two values are so field by field, a list that is nil being like an empty one.
func alike(a, b api.Value) bool {
	return a.Kind == b.Kind && a.Num == b.Num && a.Text == b.Text && slices.Equal(a.Keys, b.Keys) && slices.EqualFunc(a.Items, b.Items, alike)
}

// What follows makes values.

func num(s string) api.Value            { return api.Value{Kind: api.Number, Num: s} }
func text(s string) api.Value           { return api.Value{Kind: api.Text, Text: s} }
func list(items ...api.Value) api.Value { return api.Value{Kind: api.Array, Items: items} }
func fields(pairs ...any) api.Value     { return objectOf(pairsOf(pairs)) }
func kind(k int) api.Value              { return api.Value{Kind: k} }
func repeated(s string, n int) string   { return strings.Repeat(s, n) }
func pairsOf(p []any) map[string]api.Value {
	out := map[string]api.Value{}
	for i := 0; i < len(p); i += 2 {
		out[p[i].(string)] = p[i+1].(api.Value)
	}
	return out
}

func object(keys []string, items ...api.Value) api.Value {
	return api.Value{Kind: api.Object, Keys: keys, Items: items}
}

// js is the value that a text of JSON says.
func js(s string) api.Value {
	var out any
	d := json.NewDecoder(strings.NewReader(s))
	d.UseNumber()
	if err := d.Decode(&out); err != nil {
		panic(s + ": " + err.Error())
	}
	return ofJSON(out)
}

func ofJSON(x any) api.Value {
	switch x := x.(type) {
	case bool:
		if x {
			return kind(api.True)
		}
		return kind(api.False)
	case json.Number:
		return num(x.String())
	case string:
		return text(x)
	case []any:
		out := list()
		for _, item := range x {
			out.Items = append(out.Items, ofJSON(item))
		}
		return out
	case map[string]any:
		out := map[string]api.Value{}
		for key, item := range x {
			out[key] = ofJSON(item)
		}
		return objectOf(out)
	}
	return api.Value{}
}

// source picks one of so many.
type source func(many int) int

func random(seed int64) source { return rand.New(rand.NewSource(seed)).Intn }

// names are few, so that two objects often have some in common; their order by bytes is neither that of runes in 16 bits nor that of a dictionary.
var names = []string{"", "a", "b", "ab", "Z", "~", "é", "\uFFFF", "\U00010000", "a\x00", "\"", "aa"}

var numbers = []string{"0", "1", "-1", "2", "9", "10", "-9", "-10", "99", "100", "-100", "9223372036854775807", "9223372036854775808", "-9223372036854775809", "123456789012345678901234567890"}

// drawn is a well shaped value.
func drawn(pick source, deep int) api.Value {
	many := 7
	if deep == 0 {
		many = 5
	}
	switch k := pick(many); k {
	case api.Number:
		return num(numbers[pick(len(numbers))])
	case api.Text:
		return text(names[pick(len(names))])
	case api.Array:
		out := list()
		for range pick(4) {
			out.Items = append(out.Items, drawn(pick, deep-1))
		}
		return out
	case api.Object:
		return drawnObject(pick, deep)
	default:
		return kind(k)
	}
}

func drawnObject(pick source, deep int) api.Value {
	out := map[string]api.Value{}
	for range pick(5) {
		out[names[pick(len(names))]] = drawn(pick, max(deep-1, 0))
	}
	return objectOf(out)
}

// wellShaped are values of all kinds, those that chapters and edges name first.
func wellShaped(many int) []api.Value {
	out := []api.Value{{}, kind(1), kind(2), list(), list(list()), list(list(), list()), object(nil), object([]string{}), list(object(nil)), {Kind: 5, Items: []api.Value{}, Keys: []string{}}}
	for _, s := range numbers {
		out = append(out, num(s))
	}
	out = append(out, num("1"+repeated("0", 40)), num("-1"+repeated("0", 40)), num(repeated("9", 40)), num("1"+repeated("0", 39)+"1"))
	for _, s := range names {
		out = append(out, text(s), object([]string{s}, kind(0)), object([]string{s}, num("1")), list(text(s)))
	}
	for _, s := range []string{`[1,2]`, `[1,10]`, `[1,2,0]`, `[2]`, `[null,1]`, `{"a":2}`, `{"a":1,"b":0}`, `{"a":0,"b":1}`, `{"a":1,"c":0}`, `{"a":{"a":1}}`, `{"a":{"a":1,"b":2}}`, `{"a":{"b":2}}`, `{"a":[{}]}`, `{"a":{"a":{"a":{}}}}`} {
		out = append(out, js(s))
	}
	pick := random(3)
	for range many {
		out = append(out, drawn(pick, 3))
	}
	return out
}

// filled are a kind's values with a field set that the kind may not have.
func filled(v api.Value) []api.Value {
	a, b, c, d := v, v, v, v
	a.Num = "1"
	b.Text = "x"
	c.Items = []api.Value{{}}
	d.Keys = []string{"a"}
	return []api.Value{a, b, c, d}
}

// misshapen are values that aren't well shaped at the top.
func misshapen() []api.Value {
	one := num("1")
	out := []api.Value{kind(-1), kind(7), kind(9), kind(math.MaxInt), kind(math.MinInt), {Kind: 7, Num: "1"}, {Kind: -1, Items: []api.Value{one}}, {Kind: 8, Keys: []string{"a"}, Items: []api.Value{one}}}
	for k := range 3 {
		out = append(out, filled(kind(k))...)
	}
	out = append(out, filled(one)[1:]...)
	for _, s := range []string{"", "07", "-0", "00", "-", "+1", "1.0", "1e3", "x", " 1", "1 ", "0x1", "-07", "1_0", "\xff", "--1"} {
		out = append(out, num(s))
	}
	word := filled(text("w"))
	out = append(out, word[0], word[2], word[3])
	for _, s := range []string{"\xff", "\xc3", "a\x80", "\xc0\x80", "\xed\xa0\x80", "\xf4\x90\x80\x80", "\xe2\x82"} {
		out = append(out, text(s), object([]string{s}, one), object([]string{"a", s}, one, one))
	}
	row := filled(list(one))
	out = append(out, row[0], row[1], row[3], api.Value{Kind: 5, Keys: []string{""}})
	out = append(out, filled(object([]string{"a"}, one))[:2]...)
	return append(out,
		object([]string{"b", "a"}, one, one), object([]string{"a", "a"}, one, one), object([]string{"a", "c", "b"}, one, one, one), object([]string{"é", "z"}, one, one),
		object([]string{"", ""}, one, one), object([]string{"\U00010000", "\uFFFF"}, one, one), object([]string{"ab", "a"}, one, one), object([]string{"a", "b", "b"}, one, one, one),
		object([]string{"a"}), object([]string{"a", "b"}, one), object([]string{"a"}, one, one), object(nil, one))
}

// around are values that are well shaped but for this one inside them.
func around(v api.Value) []api.Value {
	one := num("1")
	return []api.Value{
		list(v), list(one, v), list(v, one), list(one, v, one), list(list(list(v))), object([]string{"a"}, v), object([]string{"a", "b"}, one, v), object([]string{"a", "b"}, v, one),
		object([]string{"a"}, list(object([]string{"b", "c"}, one, list(one, v)))), nested(v, 100),
	}
}

// nested is a value within so many arrays and objects.
func nested(v api.Value, deep int) api.Value {
	for i := range deep {
		if i%2 == 0 {
			v = list(v)
		} else {
			v = object([]string{"a"}, v)
		}
	}
	return v
}

// wrong are values that aren't well shaped, at the top or inside.
func wrong() []api.Value {
	out := misshapen()
	for _, v := range misshapen() {
		out = append(out, around(v)...)
	}
	return out
}
