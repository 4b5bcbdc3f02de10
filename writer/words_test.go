package writer_test

import (
	"bytes"
	"encoding/json"
	"math/rand"
	"slices"
	"strings"

	"hallmark/api"
	"hallmark/specimen"
	"hallmark/utf"
)

// What stands in this file says the chapter's words once more: a plain text by joining, a laid one by the lines that it has. The tests hold the package against it.

func plainOf(v api.Value) string {
	var parts []string
	switch v.Kind {
	case api.Number:
		return v.Num
	case api.Text:
		return utf.Quote(v.Text)
	case api.Array:
		for _, item := range v.Items {
			parts = append(parts, plainOf(item))
		}
		return "[" + strings.Join(parts, ",") + "]"
	case api.Object:
		for i, key := range v.Keys {
			parts = append(parts, utf.Quote(key)+":"+plainOf(v.Items[i]))
		}
		return "{" + strings.Join(parts, ",") + "}"
	}
	return []string{"null", "false", "true"}[v.Kind]
}

// linesOf are the lines of a laid text, the first one without its blanks.
func linesOf(v api.Value, deep, step int) []string {
	if len(v.Items) == 0 {
		return []string{plainOf(v)}
	}
	brackets := map[int]string{api.Array: "[]", api.Object: "{}"}[v.Kind]
	out := []string{brackets[:1]}
	for i, item := range v.Items {
		lines := linesOf(item, deep+1, step)
		if v.Kind == api.Object {
			lines[0] = utf.Quote(v.Keys[i]) + ": " + lines[0]
		}
		lines[0] = blanks((deep+1)*step) + lines[0]
		if i < len(v.Items)-1 {
			lines[len(lines)-1] += ","
		}
		out = append(out, lines...)
	}
	return append(out, blanks(deep*step)+brackets[1:])
}

func laidOf(v api.Value, step int) string { return strings.Join(linesOf(v, 0, step), "\n") }

func blanks(n int) string { return strings.Repeat(" ", n) }

// indented is a plain text as encoding/json lays it.
func indented(plain string, step int) string {
	var out bytes.Buffer
	if err := json.Indent(&out, []byte(plain), "", blanks(step)); err != nil {
		panic(plain + ": " + err.Error())
	}
	return out.String()
}

// stripped is a text without the bytes 0A and 20 that stand outside its literals.
func stripped(s string) string {
	var out []byte
	inside, taken := false, false
	for _, b := range []byte(s) {
		if !inside && (b == 0x0A || b == 0x20) {
			continue
		}
		out = append(out, b)
		if b == '"' && !taken {
			inside = !inside
		}
		taken = inside && b == '\\' && !taken
	}
	return string(out)
}

// What follows makes values.

var (
	num, text, list, object, kind = specimen.Num, specimen.Text, specimen.List, specimen.Object, specimen.Kind
	nested, repeated              = specimen.Nested, strings.Repeat
)

// sample is the chapter's own: {"b":[1,"x\n"],"a":{}}.
func sample() api.Value {
	return object([]string{"a", "b"}, object(nil), list(num("1"), text("x\n")))
}

// texts are such as must be quoted, and such as look like what they aren't.
func texts() []string {
	return []string{
		"", " ", "  ", "\n", "a b", " a\n ", "\"", "\\", "\\\"", "a\\", "\\n", "\b\f\n\r\t", "\x00\x01\x1f", "\x7f", "/", "é", "\u0080", "\u2028", "\uFFFD", "\uFFFF", "\U00010000", "𝄞😀", "\U0010FFFF",
		"null", "1", "[]", "{}", "[1, 2]", `{"a": 1}`, ",", ": ", `", "`, `": "`, "\",\n\"", "\\u0041", "\\\\", repeated("é\n", 99),
	}
}

// wellShaped are values of all kinds, each text of the ones above at each place where a text may stand.
func wellShaped(many int) []api.Value {
	pick := rand.New(rand.NewSource(6)).Intn
	out := []api.Value{sample(), list(kind(api.Null), num("-7"))}
	for _, s := range texts() {
		out = append(out, text(s), list(text(s), text(s)), object([]string{s}, text(s)), object([]string{s, s + "\n"}, list(), list(object([]string{s}, num("1")))))
	}
	for _, v := range []api.Value{list(), object(nil)} {
		out = append(out, list(v, v), list(kind(api.True), v), list(v, kind(api.False)), object([]string{"a", "b"}, v, v), object([]string{"a"}, list(v)))
	}
	for deep := range 4 {
		out = append(out, nested(list(), deep), nested(object(nil), deep), nested(text("x"), deep))
	}
	return append(out, specimen.WellShaped(pick, many)...)
}

// deeper is a value of that depth, each level with something ahead and something behind.
func deeper(depth int) api.Value {
	v := list(num("1"))
	for i := range depth - 1 {
		if i%2 == 0 {
			v = list(text("["), v, list())
		} else {
			v = object([]string{"a", "b", "c"}, object(nil), v, text("}"))
		}
	}
	return v
}

// distinct are well shaped values, one of each text.
func distinct(many int) []api.Value {
	out := wellShaped(many)
	slices.SortFunc(out, func(a, b api.Value) int { return strings.Compare(plainOf(a), plainOf(b)) })
	return slices.CompactFunc(out, func(a, b api.Value) bool { return plainOf(a) == plainOf(b) })
}
