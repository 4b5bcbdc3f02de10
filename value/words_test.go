package value_test

import (
	"bytes"
	"encoding/json"
	"maps"
	"math/big"
	"math/rand"
	"regexp"
	"slices"
	"strings"
	"unicode/utf8"

	"hallmark/api"
	"hallmark/specimen"
)

// What stands in this file says the words of the document once more, as plainly as they stand there: the tests hold the package against it. Objects are maps here.

var inTens = regexp.MustCompile(`^(0|-?[1-9][0-9]*)$`)

func nothing(v api.Value, num, text, items, keys bool) bool {
	return (!num || v.Num == "") && (!text || v.Text == "") && (!items || len(v.Items) == 0) && (!keys || len(v.Keys) == 0)
}

func formedOf(v api.Value) bool {
	for _, item := range v.Items {
		if !formedOf(item) {
			return false
		}
	}
	switch v.Kind {
	case 0, 1, 2:
		return nothing(v, true, true, true, true)
	case 3:
		return nothing(v, false, true, true, true) && inTens.MatchString(v.Num)
	case 4:
		return nothing(v, true, false, true, true) && utf8.ValidString(v.Text)
	case 5:
		return nothing(v, true, true, false, true)
	case 6:
		rises := slices.IsSorted(v.Keys) && len(fieldsOf(v.Keys, v.Items)) == len(v.Keys)
		return nothing(v, true, true, false, false) && len(v.Keys) == len(v.Items) && rises && utf8.ValidString(strings.Join(v.Keys, "|"))
	}
	return false
}

// fieldsOf takes the later of two items with one name; keys without an item stand beside null.
func fieldsOf(keys []string, items []api.Value) map[string]api.Value {
	out := map[string]api.Value{}
	for i, key := range keys {
		out[key] = api.Value{}
		if i < len(items) {
			out[key] = items[i]
		}
	}
	return out
}

func objectOf(fields map[string]api.Value) api.Value {
	out := object(slices.Sorted(maps.Keys(fields)))
	for _, key := range out.Keys {
		out.Items = append(out.Items, fields[key])
	}
	return out
}

func orderOf(a, b api.Value) int {
	if a.Kind != b.Kind {
		return sign(a.Kind - b.Kind)
	}
	switch a.Kind {
	case api.Number:
		x, _ := new(big.Int).SetString(a.Num, 10)
		y, _ := new(big.Int).SetString(b.Num, 10)
		return x.Cmp(y)
	case api.Text:
		return bytes.Compare([]byte(a.Text), []byte(b.Text))
	case api.Array:
		for i := range min(len(a.Items), len(b.Items)) {
			if side := orderOf(a.Items[i], b.Items[i]); side != 0 {
				return side
			}
		}
		return sign(len(a.Items) - len(b.Items))
	case api.Object:
		if side := orderOf(texts(a.Keys), texts(b.Keys)); side != 0 {
			return side
		}
		return orderOf(list(a.Items...), list(b.Items...))
	}
	return 0
}

func sign(n int) int {
	switch {
	case n < 0:
		return -1
	case n > 0:
		return 1
	}
	return 0
}

func texts(keys []string) api.Value {
	out := list()
	for _, key := range keys {
		out.Items = append(out.Items, text(key))
	}
	return out
}

func weightOf(v api.Value) int {
	weight := 1 + len(strings.TrimPrefix(v.Num, "-")) + len(v.Text)
	for _, key := range v.Keys {
		weight += 1 + len(key)
	}
	for _, item := range v.Items {
		weight += weightOf(item)
	}
	return weight
}

func depthOf(v api.Value) int {
	if v.Kind < api.Array {
		return 0
	}
	depths := []int{0}
	for _, item := range v.Items {
		depths = append(depths, depthOf(item))
	}
	return 1 + slices.Max(depths)
}

func mergeOf(a, b api.Value) api.Value {
	out := fieldsOf(a.Keys, a.Items)
	maps.Copy(out, fieldsOf(b.Keys, b.Items))
	return objectOf(out)
}

func deepOf(a, b api.Value) api.Value {
	out := fieldsOf(a.Keys, a.Items)
	for key, y := range fieldsOf(b.Keys, b.Items) {
		x, both := out[key]
		out[key] = y
		if both && x.Kind == api.Object && y.Kind == api.Object {
			out[key] = deepOf(x, y)
		}
	}
	return objectOf(out)
}

func withoutOf(v api.Value, key string) api.Value {
	out := fieldsOf(v.Keys, v.Items)
	delete(out, key)
	return objectOf(out)
}

// What follows makes values.

var (
	num, text, list, object, kind        = specimen.Num, specimen.Text, specimen.List, specimen.Object, specimen.Kind
	drawn, drawnObject, nested, repeated = specimen.Drawn, specimen.DrawnObject, specimen.Nested, strings.Repeat
	filled, misshapen, wrong, spoilt     = specimen.Filled, specimen.Misshapen, specimen.Wrong, specimen.Spoilt
	alike, roomy, untouched              = specimen.Alike, specimen.Roomy, specimen.Untouched
	names                                = specimen.Names()
)

func fields(pairs ...any) api.Value { return objectOf(pairsOf(pairs)) }

func pairsOf(p []any) map[string]api.Value {
	out := map[string]api.Value{}
	for i := 0; i < len(p); i += 2 {
		out[p[i].(string)] = p[i+1].(api.Value)
	}
	return out
}

// js is the value that a text of JSON says.
func js(s string) api.Value {
	var out any
	d := json.NewDecoder(strings.NewReader(s))
	d.UseNumber()
	if err := d.Decode(&out); err != nil {
		panic(s + ": " + err.Error())
	}
	return ofJSON(out)
}

func ofJSON(x any) api.Value {
	switch x := x.(type) {
	case bool:
		if x {
			return kind(api.True)
		}
		return kind(api.False)
	case json.Number:
		return num(x.String())
	case string:
		return text(x)
	case []any:
		out := list()
		for _, item := range x {
			out.Items = append(out.Items, ofJSON(item))
		}
		return out
	case map[string]any:
		out := map[string]api.Value{}
		for key, item := range x {
			out[key] = ofJSON(item)
		}
		return objectOf(out)
	}
	return api.Value{}
}

func random(seed int64) specimen.Source { return rand.New(rand.NewSource(seed)).Intn }

// wellShaped are values of all kinds, those that the chapter and edges name first.
func wellShaped(many int) []api.Value {
	var out []api.Value
	for _, s := range []string{`[1,2]`, `[1,10]`, `[1,2,0]`, `[2]`, `[null,1]`, `{"a":2}`, `{"a":1,"b":0}`, `{"a":0,"b":1}`, `{"a":1,"c":0}`, `{"a":{"a":1}}`, `{"a":{"a":1,"b":2}}`, `{"a":{"b":2}}`, `{"a":[{}]}`, `{"a":{"a":{"a":{}}}}`} {
		out = append(out, js(s))
	}
	return append(out, specimen.WellShaped(random(3), many)...)
}
