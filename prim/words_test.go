package prim_test

import (
	"math/rand"
	"regexp"
	"slices"
	"strconv"
	"strings"
	"unicode/utf8"

	"hallmark/api"
	"hallmark/arith"
	"hallmark/path"
	"hallmark/reader"
	"hallmark/specimen"
	"hallmark/utf"
	"hallmark/value"
)

// What stands in this file says the chapter's words once more, row by row, one by one and without a thought for what it costs. The tests hold the package against it.

// says is what the table says of a primitive's input and arguments: a value, neither, or unfit.
type says func(v api.Value, a []api.Value) answer

// unfit is what is told where no row fits; the fault's word is put in later.
var unfit = fails("")

// rowsOf are the table's, by the primitives' names and how many arguments they take.
func rowsOf() map[string]says {
	return map[string]says{
		"length/0": lengthOf, "utf8bytelength/0": ofText(func(s string) api.Value { return whole(len(s)) }), "not/0": func(v api.Value, a []api.Value) answer { return truth(v.Kind == api.Null || v.Kind == api.False) },
		"keys/0": keysOf, "has/1": hasOf, "contains/1": containsOf, "type/0": func(v api.Value, a []api.Value) answer { return is(text(nameOf(v))) },
		"tostring/0": func(v api.Value, a []api.Value) answer { return is(text(stringOf(v))) }, "tojson/0": func(v api.Value, a []api.Value) answer { return is(text(plainOf(v))) }, "tonumber/0": tonumberOf, "fromjson/0": fromjsonOf,
		"ascii_downcase/0": ofText(func(s string) api.Value { return text(shiftedOf(s, 'A', 'Z', 32)) }), "ascii_upcase/0": ofText(func(s string) api.Value { return text(shiftedOf(s, 'a', 'z', -32)) }),
		"explode/0": ofText(func(s string) api.Value { return numbers([]rune(s)) }), "implode/0": implodeOf,
		"startswith/1": ofTexts(func(s, a string) answer { return truth(beginsOf(s, a)) }), "endswith/1": ofTexts(func(s, a string) answer { return truth(endsOf(s, a)) }), "ltrimstr/1": trimOf(true), "rtrimstr/1": trimOf(false),
		"split/1": ofTexts(splitOf), "join/1": joinOf, "indices/1": indicesOf, "reverse/0": reverseOf,
		"sort/0": byItselfOf(sortByOf), "_sort_by/1": sortByOf, "_group_by/1": groupByOf, "_unique_by/1": uniqueByOf, "_min_by/1": endOf(false), "_max_by/1": endOf(true), "min/0": byItselfOf(endOf(false)), "max/0": byItselfOf(endOf(true)), "unique/0": byItselfOf(uniqueByOf),
		"add/0": addOf, "flatten/0": flattenOf, "transpose/0": transposeOf, "getpath/1": getpathOf, "setpath/2": setpathOf, "delpaths/1": delpathsOf,
		"abs/0": absOf, "toarray/0": toarrayOf,
	}
}

// doOf asks the words.
func doOf(name string, v api.Value, a []api.Value) answer {
	row, isOne := rowsOf()[name+"/"+strconv.Itoa(len(a))]
	if !isOne || !formedOf(v) || !formedOf(a...) {
		return answer{}
	}
	got := row(v, a)
	switch {
	case alike(got, unfit):
		word, _ := strings.CutPrefix(name, "_")
		return fails(word)
	case got.Ok && value.Weight(got.V) > 1048576:
		return answer{}
	}
	return got
}

// asked is Do of a primitive.
func asked(name string) specimen.Call {
	return specimen.Call{
		Do:   func(l []api.Value) answer { return do(name, l[0], l[1:]...) },
		Want: func(l []api.Value) answer { return doOf(name, l[0], l[1:]) },
	}
}

// ofText is of a primitive that takes a text, and always goes well.
func ofText(made func(s string) api.Value) says {
	return func(v api.Value, a []api.Value) answer {
		if v.Kind != api.Text {
			return unfit
		}
		return is(made(v.Text))
	}
}

// ofTexts is of one that takes two texts.
func ofTexts(made func(s, a string) answer) says {
	return func(v api.Value, a []api.Value) answer {
		if v.Kind != api.Text || a[0].Kind != api.Text {
			return unfit
		}
		return made(v.Text, a[0].Text)
	}
}

func lengthOf(v api.Value, a []api.Value) answer {
	switch v.Kind {
	case api.Null:
		return is(num("0"))
	case api.Number:
		return absOf(v, a)
	case api.Text:
		return is(whole(len([]rune(v.Text))))
	case api.Array:
		return is(whole(len(v.Items)))
	case api.Object:
		return is(whole(len(v.Keys)))
	}
	return unfit
}

func absOf(v api.Value, a []api.Value) answer {
	if v.Kind != api.Number {
		return unfit
	}
	return is(num(strings.ReplaceAll(v.Num, "-", "")))
}

func keysOf(v api.Value, a []api.Value) answer {
	out := list()
	for i := range v.Items {
		if v.Kind == api.Object {
			out.Items = append(out.Items, text(v.Keys[i]))
		} else {
			out.Items = append(out.Items, whole(i))
		}
	}
	if v.Kind != api.Array && v.Kind != api.Object {
		return unfit
	}
	return is(out)
}

func hasOf(v api.Value, a []api.Value) answer {
	switch {
	case v.Kind == api.Object && a[0].Kind == api.Text:
		return truth(slices.Contains(v.Keys, a[0].Text))
	case v.Kind == api.Array && a[0].Kind == api.Number:
		for i := range v.Items {
			if strconv.Itoa(i) == a[0].Num {
				return truth(true)
			}
		}
		return truth(false)
	}
	return unfit
}

func nameOf(v api.Value) string {
	return [...]string{"null", "boolean", "boolean", "number", "string", "array", "object"}[v.Kind]
}

func containsOf(v api.Value, a []api.Value) answer {
	if nameOf(v) != nameOf(a[0]) {
		return unfit
	}
	return truth(holdsOf(v, a[0]))
}

func holdsOf(v, a api.Value) bool {
	switch {
	case v.Kind == api.Text && a.Kind == api.Text:
		return strings.Index(v.Text, a.Text) >= 0
	case v.Kind == api.Array && a.Kind == api.Array:
		for _, wanted := range a.Items {
			held := 0
			for _, item := range v.Items {
				if holdsOf(item, wanted) {
					held++
				}
			}
			if held == 0 {
				return false
			}
		}
		return true
	case v.Kind == api.Object && a.Kind == api.Object:
		for i, key := range a.Keys {
			at := slices.Index(v.Keys, key)
			if at < 0 || !holdsOf(v.Items[at], a.Items[i]) {
				return false
			}
		}
		return true
	}
	return specimen.Alike(v, a)
}

func stringOf(v api.Value) string {
	if v.Kind == api.Text {
		return v.Text
	}
	return plainOf(v)
}

// plainOf is the plain text.
func plainOf(v api.Value) string {
	var out strings.Builder
	writtenOf(v, &out)
	return out.String()
}

func writtenOf(v api.Value, out *strings.Builder) {
	brackets := [2]string{"[", "]"}
	switch v.Kind {
	case api.Object:
		brackets = [2]string{"{", "}"}
	case api.Array:
	default:
		out.WriteString([...]string{"null", "false", "true", v.Num, utf.Quote(v.Text)}[v.Kind])
		return
	}
	out.WriteString(brackets[0])
	for i, item := range v.Items {
		if i > 0 {
			out.WriteString(",")
		}
		if v.Kind == api.Object {
			out.WriteString(utf.Quote(v.Keys[i]) + ":")
		}
		writtenOf(item, out)
	}
	out.WriteString(brackets[1])
}

func tonumberOf(v api.Value, a []api.Value) answer {
	s := v.Num + v.Text // one of them is empty
	if v.Kind != api.Number && v.Kind != api.Text || !regexp.MustCompile(`\A(0|-?[1-9][0-9]*)\z`).MatchString(s) {
		return unfit
	}
	return is(num(s))
}

func fromjsonOf(v api.Value, a []api.Value) answer {
	read, e, _ := reader.One(v.Text)
	if v.Kind != api.Text || e != api.OK {
		return unfit
	}
	return is(read)
}

// shiftedOf is a text with the bytes between two moved.
func shiftedOf(s string, from, to byte, by int) string {
	out := []byte(s)
	for i, b := range out {
		if from <= b && b <= to {
			out[i] = byte(int(b) + by)
		}
	}
	return string(out)
}

func numbers(l []rune) api.Value {
	out := list()
	for _, r := range l {
		out.Items = append(out.Items, whole(int(r)))
	}
	return out
}

func implodeOf(v api.Value, a []api.Value) answer {
	if v.Kind != api.Array {
		return unfit
	}
	out := ""
	for _, item := range v.Items {
		n, e := strconv.ParseInt(item.Num, 10, 32)
		if e != nil || !utf8.ValidRune(rune(n)) {
			return unfit
		}
		out += string(rune(n))
	}
	return is(text(out))
}

func beginsOf(s, a string) bool { return len(s) >= len(a) && s[:len(a)] == a }

func endsOf(s, a string) bool { return len(s) >= len(a) && s[len(s)-len(a):] == a }

func trimOf(front bool) says {
	return func(v api.Value, a []api.Value) answer {
		s, part := v.Text, a[0].Text
		switch {
		case v.Kind != api.Text || a[0].Kind != api.Text:
		case front && beginsOf(s, part):
			return is(text(s[len(part):]))
		case !front && endsOf(s, part):
			return is(text(s[:len(s)-len(part)]))
		}
		return is(v)
	}
}

func splitOf(s, a string) answer {
	out := list()
	if s != "" {
		for _, piece := range strings.Split(s, a) {
			out.Items = append(out.Items, text(piece))
		}
	}
	return is(out)
}

func joinOf(v api.Value, a []api.Value) answer {
	if v.Kind != api.Array || a[0].Kind != api.Text {
		return unfit
	}
	out := ""
	for i, item := range v.Items {
		if item.Kind == api.Array || item.Kind == api.Object {
			return unfit
		}
		if i > 0 {
			out += a[0].Text
		}
		if item.Kind != api.Null {
			out += stringOf(item)
		}
	}
	return is(text(out))
}

func indicesOf(v api.Value, a []api.Value) answer {
	out := list()
	part := a[0].Items
	switch {
	case v.Kind == api.Null:
		return is(api.Value{})
	case v.Kind == api.Text && a[0].Kind == api.Text:
		runes := []rune(v.Text)
		for i := range runes {
			if a[0].Text != "" && beginsOf(string(runes[i:]), a[0].Text) {
				out.Items = append(out.Items, whole(i))
			}
		}
		return is(out)
	case v.Kind != api.Array:
		return unfit
	case a[0].Kind != api.Array:
		part = a
	}
	for i := 0; len(part) > 0 && i+len(part) <= len(v.Items); i++ {
		if specimen.Alike(list(v.Items[i:i+len(part)]...), list(part...)) {
			out.Items = append(out.Items, whole(i))
		}
	}
	return is(out)
}

func reverseOf(v api.Value, a []api.Value) answer {
	switch v.Kind {
	case api.Null:
		return is(list())
	case api.Text:
		out := ""
		for _, r := range v.Text {
			out = string(r) + out
		}
		return is(text(out))
	case api.Array:
		out := list()
		for i := range v.Items {
			out.Items = append(out.Items, v.Items[len(v.Items)-1-i])
		}
		return is(out)
	}
	return unfit
}

// byItselfOf is of a primitive whose input is its keys too.
func byItselfOf(by says) says {
	return func(v api.Value, a []api.Value) answer { return by(v, []api.Value{v}) }
}

// pair is an item with its key.
type pair struct{ item, key api.Value }

// pairsOf are the items with their keys, in the order of these.
func pairsOf(v api.Value, a []api.Value) ([]pair, bool) {
	var out []pair
	for i, item := range v.Items {
		one := pair{item: item}
		if i < len(a[0].Items) {
			one.key = a[0].Items[i]
		}
		at := len(out)
		for at > 0 && value.Cmp(out[at-1].key, one.key) > 0 {
			at--
		}
		out = slices.Insert(out, at, one)
	}
	return out, v.Kind == api.Array && a[0].Kind == api.Array
}

func sortByOf(v api.Value, a []api.Value) answer {
	pairs, fit := pairsOf(v, a)
	out := list()
	for _, one := range pairs {
		out.Items = append(out.Items, one.item)
	}
	if !fit {
		return unfit
	}
	return is(out)
}

func groupByOf(v api.Value, a []api.Value) answer {
	pairs, fit := pairsOf(v, a)
	out := list()
	for i, one := range pairs {
		if i == 0 || !specimen.Alike(pairs[i-1].key, one.key) {
			out.Items = append(out.Items, list())
		}
		last := &out.Items[len(out.Items)-1]
		last.Items = append(last.Items, one.item)
	}
	if !fit {
		return unfit
	}
	return is(out)
}

func uniqueByOf(v api.Value, a []api.Value) answer {
	groups := groupByOf(v, a)
	for i, group := range groups.V.Items {
		groups.V.Items[i] = group.Items[0]
	}
	return groups
}

// endOf is of the first or the last item in the order of the keys.
func endOf(last bool) says {
	return func(v api.Value, a []api.Value) answer {
		pairs, fit := pairsOf(v, a)
		switch {
		case !fit:
			return unfit
		case len(pairs) == 0:
			return is(api.Value{})
		case last:
			return is(pairs[len(pairs)-1].item)
		}
		return is(pairs[0].item)
	}
}

func addOf(v api.Value, a []api.Value) answer {
	if v.Kind != api.Array && v.Kind != api.Null {
		return unfit
	}
	sum := api.Value{}
	for _, item := range v.Items {
		next, _, ok := arith.Do(api.Add, sum, item)
		switch {
		case !ok:
			return unfit
		case value.Weight(next) > 1048576:
			return answer{}
		}
		sum = next
	}
	return is(sum)
}

func flattenOf(v api.Value, a []api.Value) answer {
	if v.Kind != api.Array {
		return unfit
	}
	out := list()
	for _, item := range v.Items {
		if item.Kind == api.Array {
			out.Items = append(out.Items, flattenOf(item, nil).V.Items...)
		} else {
			out.Items = append(out.Items, item)
		}
	}
	return is(out)
}

func transposeOf(v api.Value, a []api.Value) answer {
	longest := 0
	for _, row := range v.Items {
		if row.Kind != api.Array {
			return unfit
		}
		longest = max(longest, len(row.Items))
	}
	if v.Kind != api.Array {
		return unfit
	}
	out := list()
	for i := range longest {
		column := list()
		for _, row := range v.Items {
			column.Items = append(column.Items, append(slices.Clone(row.Items), make([]api.Value, longest)...)[i])
		}
		out.Items = append(out.Items, column)
	}
	return is(out)
}

// wentOf is of what layer 8 answers.
func wentOf(v api.Value, e api.Errno) answer {
	if e != api.OK {
		return unfit
	}
	return is(v)
}

func getpathOf(v api.Value, a []api.Value) answer {
	if a[0].Kind != api.Array {
		return unfit
	}
	return wentOf(path.Get(v, a[0].Items))
}

func setpathOf(v api.Value, a []api.Value) answer {
	if a[0].Kind != api.Array {
		return unfit
	}
	return wentOf(path.Put(v, a[0].Items, a[1]))
}

func delpathsOf(v api.Value, a []api.Value) answer {
	if a[0].Kind != api.Array {
		return unfit
	}
	var ways [][]api.Value
	for _, way := range a[0].Items {
		if way.Kind != api.Array {
			return unfit
		}
		ways = append(ways, way.Items)
	}
	return wentOf(path.Drops(v, ways))
}

func toarrayOf(v api.Value, a []api.Value) answer {
	if v.Kind == api.Array {
		return is(v)
	}
	return is(list(v))
}

// What follows makes values and answers.

type answer = specimen.Answer

var (
	num, text, list, object, kind = specimen.Num, specimen.Text, specimen.List, specimen.Object, specimen.Kind
	is, fails, truth, js          = specimen.Is, specimen.Fails, specimen.Truth, specimen.JSON
)

func alike(a, b answer) bool { return a.Alike(b) }

func formedOf(l ...api.Value) bool { return value.Formed(list(l...)) }

func whole(n int) api.Value { return num(strconv.Itoa(n)) }

func random(seed int64) specimen.Source { return rand.New(rand.NewSource(seed)).Intn }
