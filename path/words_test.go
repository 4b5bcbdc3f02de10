package path_test

import (
	"math/big"
	"math/rand"
	"slices"
	"strconv"
	"strings"

	"hallmark/api"
	"hallmark/reader"
	"hallmark/specimen"
	"hallmark/value"
)

// What stands in this file says the chapter's words once more, key by key as they stand there, with numbers of any size and ways as texts. The tests hold the package against it.

func isKeyOf(v api.Value) bool {
	return (v.Kind == api.Text || v.Kind == api.Number) && value.Formed(v)
}

func isWayOf(p []api.Value) bool {
	return !slices.ContainsFunc(p, func(v api.Value) bool { return !isKeyOf(v) })
}

// placeOf is a number's place among so many items.
func placeOf(num string, many int) *big.Int {
	n, _ := new(big.Int).SetString(num, 10)
	if n.Sign() < 0 {
		n.Add(n, big.NewInt(int64(many)))
	}
	return n
}

// hasOf is what a value has under a key, whether that is there, and whether the key fits.
func hasOf(v, key api.Value) (part api.Value, there, fits bool) {
	switch {
	case v.Kind == api.Object && key.Kind == api.Text:
		for i, name := range v.Keys {
			if name == key.Text {
				return v.Items[i], true, true
			}
		}
	case v.Kind == api.Array && key.Kind == api.Number:
		for i, item := range v.Items {
			if placeOf(key.Num, len(v.Items)).Cmp(big.NewInt(int64(i))) == 0 {
				return item, true, true
			}
		}
	case v.Kind != api.Null:
		return api.Value{}, false, false
	}
	return api.Value{}, false, true
}

// stepOf is of well shaped values.
func stepOf(v, key api.Value) (api.Value, bool) {
	if !value.Formed(v) || !isKeyOf(key) {
		return api.Value{}, false
	}
	part, _, fits := hasOf(v, key)
	return part, fits
}

func getOf(v api.Value, p []api.Value) (api.Value, api.Errno) {
	if !value.Formed(v) || !isWayOf(p) {
		return api.Value{}, api.ErrShape
	}
	if len(p) == 0 {
		return v, api.OK
	}
	part, _, fits := hasOf(v, p[0])
	if !fits {
		return api.Value{}, api.ErrStep
	}
	return getOf(part, p[1:])
}

// thereOf says whether a way is there.
func thereOf(v api.Value, p []api.Value) bool {
	for _, key := range p {
		part, there, _ := hasOf(v, key)
		if !there {
			return false
		}
		v = part
	}
	return true
}

func putOf(v api.Value, p []api.Value, x api.Value) (api.Value, api.Errno) {
	if !value.Formed(v) || !isWayOf(p) || !value.Formed(x) {
		return api.Value{}, api.ErrShape
	}
	put, e := putIn(v, p, x, 0)
	if e != api.OK {
		return api.Value{}, e
	}
	return put, api.OK
}

// putIn is Put behind so many Nulls that the keys ahead have put in.
func putIn(v api.Value, p []api.Value, x api.Value, pads int64) (api.Value, api.Errno) {
	if len(p) == 0 {
		return x, api.OK
	}
	key, rest := p[0], p[1:]
	if v.Kind == api.Null {
		v = map[int]api.Value{api.Text: object(nil), api.Number: list()}[key.Kind]
	}
	if v.Kind == api.Object && key.Kind == api.Text {
		field, _, _ := hasOf(v, key)
		inner, e := putIn(field, rest, x, pads)
		out, _ := value.Make(append(slices.Clone(v.Keys), key.Text), append(slices.Clone(v.Items), inner))
		return out, e
	}
	if v.Kind != api.Array || key.Kind != api.Number {
		return api.Value{}, api.ErrStep
	}
	place, items := placeOf(key.Num, len(v.Items)), slices.Clone(v.Items)
	if place.Sign() < 0 {
		return api.Value{}, api.ErrFront
	}
	missing := new(big.Int).Sub(place, big.NewInt(int64(len(items))))
	if missing.Cmp(big.NewInt(65536-pads)) > 0 {
		return api.Value{}, api.ErrMany
	}
	for range missing.Int64() {
		items, pads = append(items, api.Value{}), pads+1
	}
	if missing.Sign() >= 0 {
		items = append(items, api.Value{})
	}
	inner, e := putIn(items[place.Int64()], rest, x, pads)
	items[place.Int64()] = inner
	return list(items...), e
}

// plainOf is a way that is there, with places for numbers below 0.
func plainOf(v api.Value, p []api.Value) []api.Value {
	var out []api.Value
	for _, key := range p {
		if key.Kind == api.Number {
			key.Num = placeOf(key.Num, len(v.Items)).String()
		}
		v, _, _ = hasOf(v, key)
		out = append(out, key)
	}
	return out
}

// toldWay is a way as a text; the text of a way that goes on begins with it.
func toldWay(p []api.Value) string {
	var out strings.Builder
	for _, key := range p {
		if key.Kind == api.Number {
			out.WriteString(key.Num + ";")
		} else {
			out.WriteString(strconv.Quote(key.Text) + ";")
		}
	}
	return out.String()
}

func dropsOf(v api.Value, l [][]api.Value) (api.Value, api.Errno) {
	if !value.Formed(v) {
		return api.Value{}, api.ErrShape
	}
	gone := map[string]bool{}
	for _, p := range l {
		if _, e := getOf(v, p); e != api.OK {
			return api.Value{}, e
		}
		if thereOf(v, p) {
			gone[toldWay(plainOf(v, p))] = true
		}
	}
	if gone[""] {
		return api.Value{}, api.OK
	}
	return lessOf(v, nil, gone), api.OK
}

// lessOf is a value, to which a way has led, without what is gone.
func lessOf(v api.Value, way []api.Value, gone map[string]bool) api.Value {
	out := v
	out.Items, out.Keys = nil, nil
	for i, item := range v.Items {
		on := append(slices.Clone(way), keyAt(v, i))
		if gone[toldWay(on)] {
			continue
		}
		out.Items = append(out.Items, lessOf(item, on, gone))
		if v.Kind == api.Object {
			out.Keys = append(out.Keys, v.Keys[i])
		}
	}
	return out
}

// keyAt is the key of a value's item.
func keyAt(v api.Value, i int) api.Value {
	if v.Kind == api.Object {
		return text(v.Keys[i])
	}
	return whole(i)
}

// allOf is each way of a value in a list with its part.
func allOf(v api.Value, way []api.Value) []api.Value {
	out := []api.Value{list(list(way...), v)}
	for i, item := range v.Items {
		out = append(out, allOf(item, append(slices.Clone(way), keyAt(v, i)))...)
	}
	return out
}

func leavesOf(v api.Value) []api.Value {
	return slices.DeleteFunc(allOf(v, nil), func(row api.Value) bool { return row.Items[1].Kind > api.Text })
}

// partsOf counts the parts of a value.
func partsOf(v api.Value) int {
	n := 1
	for _, item := range v.Items {
		n += partsOf(item)
	}
	return n
}

// What follows makes values and ways.

var num, text, list, object, kind = specimen.Num, specimen.Text, specimen.List, specimen.Object, specimen.Kind

func whole(n int) api.Value { return num(strconv.Itoa(n)) }

// js is the value of a text of JSON.
func js(s string) api.Value {
	v, e, at := reader.One(s)
	if e != api.OK {
		panic(s + ", at " + strconv.Itoa(at))
	}
	return v
}

// way is the keys of a text of JSON.
func way(s string) []api.Value { return js(s).Items }

// ways is several of them.
func ways(s string) [][]api.Value {
	var out [][]api.Value
	for _, p := range js(s).Items {
		out = append(out, p.Items)
	}
	return out
}

func random(seed int64) specimen.Source { return rand.New(rand.NewSource(seed)).Intn }

// far are numbers that are the place of nothing, but for one that forgets a part of their digits.
func far() []string {
	return []string{"4294967296", "-4294967296", "2147483648", "-2147483649", "9223372036854775806", "9223372036854775807", "9223372036854775808", "-9223372036854775807", "-9223372036854775808", "-9223372036854775809", "18446744073709551615", "18446744073709551616", "-18446744073709551616", "-18446744073709551617", "1" + strings.Repeat("0", 60), "-1" + strings.Repeat("0", 60)}
}

// drawnKey is a key, most often one that is there.
func drawnKey(pick specimen.Source, v api.Value) api.Value {
	many := len(v.Items)
	choice := pick(12)
	switch {
	case choice < 7 && many > 0:
		key := keyAt(v, pick(many))
		if key.Kind == api.Number && pick(3) == 1 {
			n, _ := strconv.Atoi(key.Num)
			key = whole(n - many)
		}
		return key
	case choice < 9 && v.Kind == api.Array:
		return whole([]int{many, many + 1, many + 2, -many, -many - 1, -1, 0}[pick(7)])
	case choice < 10 && v.Kind != api.Array:
		return text(specimen.Names()[pick(len(specimen.Names()))])
	case choice == 10:
		return num(far()[pick(len(far()))])
	}
	return []api.Value{text("a"), whole(0), whole(1), whole(-1), text("")}[pick(5)]
}

// drawnWay is a way of up to so many keys.
func drawnWay(pick specimen.Source, v api.Value, most int) []api.Value {
	var out []api.Value
	for range pick(most + 1) {
		key := drawnKey(pick, v)
		out = append(out, key)
		v, _, _ = hasOf(v, key)
	}
	return out
}

// drawnThere is a way that is there, some of its numbers below 0.
func drawnThere(pick specimen.Source, v api.Value) []api.Value {
	var out []api.Value
	for len(v.Items) > 0 && pick(5) != 1 {
		i := pick(len(v.Items))
		key := keyAt(v, i)
		if v.Kind == api.Array && pick(2) == 1 {
			key = whole(i - len(v.Items))
		}
		out, v = append(out, key), v.Items[i]
	}
	return out
}

// noKeys are values that no way has: of the other kinds, and what isn't well shaped.
func noKeys() []api.Value {
	out := []api.Value{kind(api.Null), kind(api.False), kind(api.True), list(), list(whole(1)), object(nil), object([]string{"a"}, whole(1))}
	return append(out, specimen.Misshapen()...)
}

// spoiltWay is a way with one more value in it that is no key.
func spoiltWay(pick specimen.Source, p []api.Value) []api.Value {
	bad := noKeys()
	return slices.Insert(slices.Clone(p), pick(len(p)+1), bad[pick(len(bad))])
}
