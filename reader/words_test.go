package reader_test

import (
	"encoding/json"
	"math/big"
	"math/rand"
	"slices"
	"strconv"
	"strings"

	"hallmark/api"
	"hallmark/token"
	"hallmark/utf"
)

// What stands in this file says the chapter's words once more: which token may stand where by a table, what a value's tokens say by encoding/json. The tests hold the package against it.

// letters are the kinds of tokens, by their numbers; V is a token that begins a value.
const letters = " {}[]:,nft1s"

// follows says of a place (what stands ahead in the innermost bracket) and a token what place comes then; none where the bracket is closed. What isn't here can't stand there.
var follows = map[string]string{
	"out V": "out",
	"[ V":   "[v", "[ ]": "",
	"[v ,": "[,", "[v ]": "",
	"[, V": "[v",
	"{ s":  "{s", "{ }": "",
	"{s :":   "{s:",
	"{s: V":  "{s:v",
	"{s:v ,": "{,", "{s:v }": "",
	"{, s": "{s",
}

// reading is what becomes of a text's tokens, gone through from the left: where each whole value stands, and what ended it.
type reading struct {
	spans [][2]int
	e     api.Errno
	at    int
}

// open is a bracket that isn't closed yet.
type open struct {
	place string
	keys  []string
}

func readingOf(s string) reading {
	var out reading
	row := []open{{place: "out"}}
	from := 0
	for x, e := range token.Seq(s) {
		if e == api.OK {
			if len(row) == 1 {
				from = x.At
			}
			row, e = stepped(row, x)
		}
		if e != api.OK {
			out.e, out.at = e, x.At
			return out
		}
		if len(row) == 1 {
			out.spans = append(out.spans, [2]int{from, x.End})
		}
	}
	if len(row) > 1 {
		out.e, out.at = api.ErrEnd, len(s)
	}
	return out
}

// stepped is the row of open brackets behind one more token.
func stepped(row []open, x api.Token) ([]open, api.Errno) {
	last := &row[len(row)-1]
	letter := letters[x.Kind : x.Kind+1]
	then, may := follows[last.place+" "+letter]
	if !may && strings.Contains("{[nft1s", letter) {
		then, may = follows[last.place+" V"]
	}
	opens := letter == "[" || letter == "{"
	switch {
	case !may:
		return nil, api.ErrToken
	case opens && len(row) > 64:
		return nil, api.ErrDeep
	case then == "{s" && slices.Contains(last.keys, x.Text):
		return nil, api.ErrTwice
	case then == "{s":
		last.keys = append(last.keys, x.Text)
	case then == "":
		return row[:len(row)-1], api.OK
	}
	last.place = then
	if opens {
		row = append(row, open{place: letter})
	}
	return row, api.OK
}

// oneOf is the reading that One answers: at most one span.
func oneOf(s string) reading {
	all := readingOf(s)
	if len(all.spans) == 0 {
		if all.e == api.OK {
			return reading{nil, api.ErrEnd, len(s)}
		}
		return all
	}
	for x, e := range token.Seq(s) {
		switch {
		case e != api.OK:
			return reading{nil, e, x.At}
		case x.At >= all.spans[0][1]:
			return reading{nil, api.ErrMore, x.At}
		}
	}
	return reading{spans: all.spans[:1]}
}

// said is what encoding/json reads.
func said(s string) any {
	var out any
	d := json.NewDecoder(strings.NewReader(s))
	d.UseNumber()
	if err := d.Decode(&out); err != nil {
		panic(s + ": " + err.Error())
	}
	return out
}

// says tells whether a value is what encoding/json has read.
func says(v api.Value, x any) bool {
	switch x := x.(type) {
	case nil:
		return v.Kind == api.Null
	case bool:
		return x && v.Kind == api.True || !x && v.Kind == api.False
	case json.Number:
		worth, ok := new(big.Int).SetString(x.String(), 10)
		return ok && v.Kind == api.Number && v.Num == worth.String()
	case string:
		return v.Kind == api.Text && v.Text == x
	case []any:
		return v.Kind == api.Array && slices.EqualFunc(v.Items, x, says)
	case map[string]any:
		return v.Kind == api.Object && len(v.Keys) == len(x) && slices.EqualFunc(v.Keys, v.Items, func(key string, item api.Value) bool {
			field, there := x[key]
			return there && says(item, field)
		})
	}
	return false
}

// What follows makes values and texts.

func num(s string) api.Value            { return api.Value{Kind: api.Number, Num: s} }
func text(s string) api.Value           { return api.Value{Kind: api.Text, Text: s} }
func list(items ...api.Value) api.Value { return api.Value{Kind: api.Array, Items: items} }

// object has keys, which rise, each beside its item.
func object(keys string, items ...api.Value) api.Value {
	return api.Value{Kind: api.Object, Keys: strings.Fields(keys), Items: items}
}

func repeated(s string, n int) string { return strings.Repeat(s, n) }

// drawn is a well shaped value.
func drawn(r *rand.Rand, deep int) api.Value {
	kind := r.Intn(7)
	if deep == 0 {
		kind = r.Intn(5)
	}
	v := api.Value{Kind: kind}
	switch kind {
	case api.Number:
		v.Num = []string{"0", "1", "-1", "10", "-10", strconv.Itoa(int(r.Int63())), "-1" + repeated("0", r.Intn(40))}[r.Intn(7)]
	case api.Text:
		v.Text = drawnText(r)
	case api.Object:
		for range r.Intn(5) {
			v.Keys = append(v.Keys, drawnText(r))
		}
		slices.Sort(v.Keys)
		v.Keys = slices.Compact(v.Keys)
		for range v.Keys {
			v.Items = append(v.Items, drawn(r, deep-1))
		}
	case api.Array:
		for range r.Intn(5) {
			v.Items = append(v.Items, drawn(r, deep-1))
		}
	}
	return v
}

func drawnText(r *rand.Rand) string {
	all := []string{"", "a", "b", "ab", "Z", "~", "é", "\uFFFF", "\U00010000", "a\x00", "\"", "\\", "\n\t", "null", "1.5", "[{:,}]", " a", "\x7f", "/", "𝄞😀"}
	return all[r.Intn(len(all))]
}

// written are a value's tokens, each as a text; an object's entries stand in any order, its texts and numbers are written in one of several ways.
func written(v api.Value, r *rand.Rand) []string {
	switch v.Kind {
	case api.Number:
		if v.Num == "0" {
			return []string{[]string{"0", "-0"}[r.Intn(2)]}
		}
		return []string{v.Num}
	case api.Text:
		return []string{literal(v.Text, r)}
	case api.Array:
		return writtenRow("[", "]", len(v.Items), func(i int) []string { return written(v.Items[i], r) })
	case api.Object:
		order := r.Perm(len(v.Keys))
		return writtenRow("{", "}", len(v.Keys), func(i int) []string {
			at := order[i]
			return append([]string{literal(v.Keys[at], r), ":"}, written(v.Items[at], r)...)
		})
	}
	return []string{[]string{"null", "false", "true"}[v.Kind]}
}

func writtenRow(first, last string, many int, part func(i int) []string) []string {
	out := []string{first}
	for i := range many {
		if i > 0 {
			out = append(out, ",")
		}
		out = append(out, part(i)...)
	}
	return append(out, last)
}

// literal is a text as a literal: as Quote has it, as encoding/json has it, or by escapes alone.
func literal(s string, r *rand.Rand) string {
	switch r.Intn(3) {
	case 0:
		return utf.Quote(s)
	case 1:
		bytes, err := json.Marshal(s)
		if err != nil {
			panic(err)
		}
		return string(bytes)
	}
	out := ""
	for _, c := range s {
		out += utf.Escaped(c)
	}
	return `"` + out + `"`
}

// laid puts tokens one behind the other, with blanks ahead of all, between them and behind all; one at least where two would run together.
func laid(tokens []string, r *rand.Rand) string {
	s := blanks(r)
	for i, x := range tokens {
		if i > 0 && inRun(tokens[i-1]) && inRun(x) {
			s += " "
		}
		s += x + blanks(r)
	}
	return s
}

func inRun(x string) bool { return !strings.Contains(`{}[]:,"'`, x[:1]) }

func blanks(r *rand.Rand) string {
	out := ""
	for range max(0, r.Intn(6)-3) {
		out += string(" \t\n\r"[r.Intn(4)])
	}
	return out
}

// spoilt are tokens of which some are others, or are gone, or have come in, or stand elsewhere; some are none.
func spoilt(tokens []string, r *rand.Rand) []string {
	others := []string{"{", "}", "[", "]", ":", ",", "null", "false", "true", "1", "-0", `"a"`, `"b"`, `""`, "x", "1.5", "'", `"\q"`, "\"\xff\""}
	out := slices.Clone(tokens)
	for range 1 + r.Intn(2) {
		at := r.Intn(len(out) + 1)
		end := min(at+1, len(out))
		other := others[r.Intn(len(others))]
		switch r.Intn(4) {
		case 0:
			out = slices.Insert(out, at, other)
		case 1:
			out = slices.Delete(out, at, end)
		case 2:
			out = slices.Replace(out, at, end, other)
		case 3:
			other := r.Intn(len(out) + 1)
			if max(at, other) < len(out) {
				out[at], out[other] = out[other], out[at]
			}
		}
	}
	return out
}

// drawnTexts are texts that are read and texts that are refused.
func drawnTexts(n int) []string {
	r := rand.New(rand.NewSource(5))
	var out []string
	for range n {
		var tokens []string
		for range r.Intn(4) {
			tokens = append(tokens, written(drawn(r, 4), r)...)
		}
		s := laid(tokens, r)
		out = append(out, s, s[:r.Intn(len(s)+1)], laid(spoilt(tokens, r), r))
	}
	return out
}

// rows calls with every row of at most so many of these tokens, each one with this behind it.
func rows(tokens []string, behind string, most int, do func(s string)) {
	var longer func(s string, left int)
	longer = func(s string, left int) {
		do(s)
		if left > 0 {
			for _, x := range tokens {
				longer(s+x+behind, left-1)
			}
		}
	}
	longer("", most)
}
