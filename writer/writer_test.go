package writer_test

import (
	"math"
	"math/rand"
	"slices"
	"strings"
	"sync"
	"testing"
	"unicode/utf8"

	"hallmark/api"
	"hallmark/reader"
	"hallmark/specimen"
	"hallmark/value"
	"hallmark/writer"
)

// steps are all that a laid text may have.
const steps = 9

// checkPlain holds Text, Size and Lines of one value.
func checkPlain(t *testing.T, v api.Value, want string) {
	t.Helper()
	if s, e := writer.Text(v); s != want || e != api.OK {
		t.Errorf("Text = %q, %d, want %q", brief(s), e, brief(want))
	}
	if n, e := writer.Size(v); n != len(want) || e != api.OK {
		t.Errorf("Size = %d, %d, want %d, of %q", n, e, len(want), brief(want))
	}
	if s, e := writer.Lines([]api.Value{v}); s != want+"\n" || e != api.OK {
		t.Errorf("Lines = %q, %d, want %q and a line's end", brief(s), e, brief(want))
	}
}

// brief is a text that may be told.
func brief(s string) string {
	if len(s) > 500 {
		return s[:500] + ".."
	}
	return s
}

func checkLaid(t *testing.T, v api.Value, step int, want string) {
	t.Helper()
	if s, e := writer.Laid(v, step); s != want || e != api.OK {
		t.Errorf("Laid with the step %d = %q, %d, want %q", step, brief(s), e, brief(want))
	}
}

// checkWords holds all that is written of a well shaped value against the chapter's words.
func checkWords(t *testing.T, v api.Value) {
	t.Helper()
	checkPlain(t, v, plainOf(v))
	for step := range steps {
		checkLaid(t, v, step, laidOf(v, step))
	}
}

// refusesShape holds all calls of a value that isn't well shaped.
func refusesShape(t *testing.T, v api.Value) {
	t.Helper()
	if s, e := writer.Text(v); s != "" || e != api.ErrShape {
		t.Errorf("Text(%v) = %q, %d", v, s, e)
	}
	if n, e := writer.Size(v); n != 0 || e != api.ErrShape {
		t.Errorf("Size(%v) = %d, %d", v, n, e)
	}
	for step := range steps {
		if s, e := writer.Laid(v, step); s != "" || e != api.ErrShape {
			t.Errorf("Laid(%v, %d) = %q, %d", v, step, s, e)
		}
	}
	x, y := num("1"), list(text("x"))
	for _, l := range [][]api.Value{{v}, {v, x}, {x, v}, {x, v, y}, {x, y, v}, {v, v}} {
		refusesLines(t, l...)
	}
}

func refusesLines(t *testing.T, l ...api.Value) {
	t.Helper()
	if s, e := writer.Lines(l); s != "" || e != api.ErrShape {
		t.Errorf("Lines of %v = %q, %d", l, s, e)
	}
}

func refusesStep(t *testing.T, v api.Value, step int) {
	t.Helper()
	if s, e := writer.Laid(v, step); s != "" || e != api.ErrRange {
		t.Errorf("Laid(%v, %d) = %q, %d", v, step, s, e)
	}
}

func TestP6_1Examples(t *testing.T) {
	checkPlain(t, sample(), `{"a":{},"b":[1,"x\n"]}`)
	refusesShape(t, num("+1"))
}

func TestP6_1Ordinary(t *testing.T) {
	one, two := num("1"), num("2")
	checkPlain(t, kind(api.Null), "null")
	checkPlain(t, kind(api.False), "false")
	checkPlain(t, kind(api.True), "true")
	for _, s := range append(specimen.Numbers(), repeated("9", 1000), "-1"+repeated("0", 1000)) {
		checkPlain(t, num(s), s)
	}
	checkPlain(t, text(""), `""`)
	checkPlain(t, text("a b"), `"a b"`)
	checkPlain(t, text("null"), `"null"`)
	checkPlain(t, text("\"\\/\b\f\n\r\t\x00\x01\x1f\x7f"), `"\"\\/\b\f\n\r\t\u0000\u0001\u001f\u007f"`)
	checkPlain(t, text("é\u0080\u2028\uFFFD\uFFFF😀"), "\"é\u0080\u2028\uFFFD\uFFFF😀\"")
	checkPlain(t, list(), "[]")
	checkPlain(t, object(nil), "{}")
	checkPlain(t, list(one), "[1]")
	checkPlain(t, list(two, one, two), "[2,1,2]")
	checkPlain(t, list(list(), object(nil), list(list()), list(object(nil))), "[[],{},[[]],[{}]]")
	checkPlain(t, list(text(""), text(","), text(" ")), `["",","," "]`)
	checkPlain(t, object([]string{"a"}, one), `{"a":1}`)
	checkPlain(t, object([]string{"", "Z", "a", "aa", "é"}, one, two, list(), object(nil), text("")), `{"":1,"Z":2,"a":[],"aa":{},"é":""}`)
	checkPlain(t, object([]string{"\n", "\"", "\\", "\x7f"}, kind(api.Null), kind(api.True), kind(api.False), text("\x7f")), `{"\n":null,"\"":true,"\\":false,"\u007f":"\u007f"}`)
	checkPlain(t, object([]string{"a"}, object([]string{"a"}, object([]string{"a"}, one))), `{"a":{"a":{"a":1}}}`)
	checkPlain(t, list(object([]string{"a", "b"}, list(one, two), kind(api.Null)), two), `[{"a":[1,2],"b":null},2]`)
}

// An empty list may be nil or not, and so may one that a kind has no use for.
func TestP6_1EmptyLists(t *testing.T) {
	none, no := []api.Value{}, []string{}
	for k, want := range []string{"null", "false", "true"} {
		checkPlain(t, api.Value{Kind: k, Items: none, Keys: no}, want)
	}
	checkPlain(t, api.Value{Kind: api.Number, Num: "1", Items: none, Keys: no}, "1")
	checkPlain(t, api.Value{Kind: api.Text, Text: "a", Items: none, Keys: no}, `"a"`)
	checkPlain(t, api.Value{Kind: api.Array, Items: none, Keys: no}, "[]")
	checkPlain(t, api.Value{Kind: api.Array, Items: []api.Value{{}}, Keys: no}, "[null]")
	checkPlain(t, api.Value{Kind: api.Object, Items: none, Keys: no}, "{}")
	checkPlain(t, api.Value{Kind: api.Object, Items: none}, "{}")
	checkPlain(t, api.Value{Kind: api.Object, Keys: no}, "{}")
	checkLaid(t, api.Value{Kind: api.Array, Items: none, Keys: no}, 3, "[]")
	checkLaid(t, api.Value{Kind: api.Array, Items: []api.Value{{}}, Keys: no}, 3, "[\n   null\n]")
	checkLaid(t, api.Value{Kind: api.Object, Items: none, Keys: no}, 3, "{}")
}

func TestP6_1P6_2P6_4Words(t *testing.T) {
	for _, v := range wellShaped(3000) {
		checkWords(t, v)
	}
}

func TestP6_1P6_2P6_3P6_4Misshapen(t *testing.T) {
	for _, v := range specimen.Wrong() {
		refusesShape(t, v)
	}
	for _, v := range specimen.Misshapen() {
		refusesShape(t, nested(v, 2*api.MaxDepth))
	}
}

func TestP6_2Examples(t *testing.T) {
	checkLaid(t, sample(), 2, strings.Join([]string{`{`, `  "a": {},`, `  "b": [`, `    1,`, `    "x\n"`, `  ]`, `}`}, "\n"))
	refusesStep(t, list(), 9)
	checkLaid(t, list(), 0, "[]")
	checkLaid(t, list(list()), 0, "[\n[]\n]")
}

func TestP6_2EachStep(t *testing.T) {
	for step := range steps {
		in := blanks(step)
		for _, s := range []string{"null", "false", "true", "0", "-12", `""`, `"a\n b"`, "[]", "{}"} {
			v, _, _ := reader.One(s)
			checkLaid(t, v, step, s)
		}
		checkLaid(t, list(num("1")), step, "[\n"+in+"1\n]")
		checkLaid(t, list(num("1"), num("-2")), step, "[\n"+in+"1,\n"+in+"-2\n]")
		checkLaid(t, object([]string{"a"}, num("1")), step, "{\n"+in+"\"a\": 1\n}")
		checkLaid(t, object([]string{"", "\n"}, text(" "), list()), step, "{\n"+in+"\"\": \" \",\n"+in+"\"\\n\": []\n}")
		checkLaid(t, list(list(list(), object(nil)), object([]string{"b"}, list(kind(api.Null)))), step,
			"[\n"+in+"[\n"+in+in+"[],\n"+in+in+"{}\n"+in+"],\n"+in+"{\n"+in+in+"\"b\": [\n"+in+in+in+"null\n"+in+in+"]\n"+in+"}\n]")
	}
}

func TestP6_2Steps(t *testing.T) {
	for _, step := range []int{-1, -2, -8, -9, math.MinInt, math.MinInt32, 9, 10, 16, 64, 255, 256, 1 << 16, 1 << 32, 1<<32 + 2, math.MaxInt32, math.MaxInt, math.MinInt + 2} {
		for _, v := range []api.Value{{}, list(), object(nil), sample(), num("1"), text("")} {
			refusesStep(t, v, step)
		}
		for _, v := range specimen.Misshapen() { // what is named first is told first
			refusesStep(t, v, step)
			refusesStep(t, list(v), step)
		}
	}
}

func TestP6_2AgainstJSON(t *testing.T) {
	for _, v := range distinct(500) {
		for step := range steps {
			checkLaid(t, v, step, indented(plainOf(v), step))
		}
	}
}

func TestP6_3Lines(t *testing.T) {
	check := func(want string, l ...api.Value) {
		t.Helper()
		if s, e := writer.Lines(l); s != want || e != api.OK {
			t.Errorf("Lines(%v) = %q, %d, want %q", l, s, e, want)
		}
	}
	check("1\n\"a\"\n", num("1"), text("a"))
	check("")
	check("", []api.Value{}...)
	check("null\n", kind(api.Null))
	check("[]\n{}\n[]\n", list(), object(nil), list())
	check("\"\"\n\"\\n\"\n\" \"\n", text(""), text("\n"), text(" "))
	check("7\n7\n7\n", num("7"), num("7"), num("7"))
	check("{\"a\":{},\"b\":[1,\"x\\n\"]}\nnull\n-1\n", sample(), kind(api.Null), num("-1"))
}

func TestP6_3Words(t *testing.T) {
	all := wellShaped(500)
	r := rand.New(rand.NewSource(63))
	for range 500 {
		l, want := []api.Value{}, ""
		for range r.Intn(6) {
			v := all[r.Intn(len(all))]
			l, want = append(l, v), want+plainOf(v)+"\n"
		}
		if s, e := writer.Lines(l); s != want || e != api.OK {
			t.Errorf("Lines of %v = %q, %d", l, s, e)
		}
		if back, e, at := reader.Many(want); e != api.OK || !slices.EqualFunc(back, l, value.Same) {
			t.Errorf("%q is read as %v, %d, %d", want, back, e, at)
		}
		wrong := specimen.Misshapen()
		refusesLines(t, slices.Insert(slices.Clone(l), r.Intn(len(l)+1), wrong[r.Intn(len(wrong))])...)
	}
}

func TestP6_4Size(t *testing.T) {
	for want, v := range map[int]api.Value{9: list(kind(api.Null), num("-7")), 4: kind(api.True), 5: kind(api.False), 2: text(""), 1: num("0"), 8: text("\x01"), 22: sample(), 3: list(num("1")), 7: object([]string{"a"}, num("1")), 6: object([]string{""}, num("1")), 1002: text(repeated("a", 1000))} {
		if n, e := writer.Size(v); n != want || e != api.OK {
			t.Errorf("Size(%v) = %d, %d, want %d", v, n, e, want)
		}
	}
}

// Two values have one text just if they are the same.
func TestP6_5OneTextEach(t *testing.T) {
	all := append(distinct(150), list(num("12")), list(num("1"), num("2")), text("[]"), text("1"), list(text("a,b")), list(text("a"), text("b")), object([]string{"a"}, list()), list(object([]string{"a"}, kind(api.Null))))
	written := func(v api.Value) []string {
		s, _ := writer.Text(v)
		out := []string{s}
		for step := range steps {
			s, _ := writer.Laid(v, step)
			out = append(out, s)
		}
		return out
	}
	rows := make([][]string, len(all))
	for i, v := range all {
		rows[i] = written(v)
		if again := written(specimen.Roomy(v)); !slices.Equal(again, rows[i]) {
			t.Errorf("%v is written as %q, and as %q", v, rows[i], again)
		}
	}
	for i, a := range all {
		for j, b := range all {
			for way, s := range rows[i] {
				if (s == rows[j][way]) != value.Same(a, b) {
					t.Errorf("%v and %v: %q, %q", a, b, s, rows[j][way])
				}
			}
		}
	}
}

// checkFollows holds what the chapter says of a well shaped value's texts, whatever they are.
func checkFollows(t *testing.T, v api.Value) {
	t.Helper()
	plain, e := writer.Text(v)
	below := strings.ContainsFunc(plain, func(r rune) bool { return r < 0x20 })
	if e != api.OK || !utf8.ValidString(plain) || below {
		t.Errorf("Text(%v) = %q, %d", v, plain, e)
	}
	checkRead(t, v, plain)
	for step := range steps {
		laid, e := writer.Laid(v, step)
		if e != api.OK || stripped(laid) != plain {
			t.Errorf("Laid(%v, %d) = %q, %d", v, step, laid, e)
		}
		checkRead(t, v, laid)
	}
}

// checkRead holds what layer 5 reads of what was written.
func checkRead(t *testing.T, v api.Value, s string) {
	t.Helper()
	back, e, at := reader.One(s)
	if value.Depth(v) > api.MaxDepth {
		if e != api.ErrDeep {
			t.Errorf("One(%q): %d, %d", s, e, at)
		}
		return
	}
	if e != api.OK || at != 0 || !value.Same(back, v) {
		t.Errorf("One(%q) = %v, %d, %d, want %v", s, back, e, at, v)
	}
}

func TestP6_5Follows(t *testing.T) {
	for _, v := range wellShaped(1000) {
		checkFollows(t, v)
	}
}

func TestP6_5Deep(t *testing.T) {
	for _, deep := range []int{1, 2, 63, 64, 65, 66, 200} {
		for _, v := range []api.Value{nested(num("1"), deep), nested(list(), deep-1), nested(object(nil), deep-1), deeper(deep)} {
			if value.Depth(v) != deep {
				t.Fatalf("%d deep, not %d", value.Depth(v), deep)
			}
			checkWords(t, v)
			checkFollows(t, v)
		}
	}
}

// What is handed in stays as it was, its spare room too.
func TestMemory(t *testing.T) {
	for _, v := range slices.Concat(wellShaped(300), specimen.Wrong()) {
		x := specimen.Roomy(v)
		room := []api.Value{specimen.Roomy(v), x, num("5")}
		call(x)
		_, _ = writer.Lines(room[:2])
		if !specimen.Untouched(x, v) || !specimen.Untouched(room[0], v) || room[2].Num != "5" {
			t.Errorf("changed: %v", v)
		}
	}
}

// A text that was answered doesn't change with the value.
func TestMemoryOfAnswers(t *testing.T) {
	v := sample()
	plain, _ := writer.Text(v)
	laid, _ := writer.Laid(v, 1)
	lines, _ := writer.Lines([]api.Value{v})
	v.Keys[0], v.Items[0], v.Items[1].Items[0] = "!", num("2"), num("3")
	if plain != plainOf(sample()) || laid != laidOf(sample(), 1) || lines != plain+"\n" {
		t.Errorf("%q, %q, %q", plain, laid, lines)
	}
}

// call is what all calls answer of a value.
func call(v api.Value) []any {
	plain, e := writer.Text(v)
	n, f := writer.Size(v)
	lines, g := writer.Lines([]api.Value{v, v})
	out := []any{plain, e, n, f, lines, g}
	for step := -1; step <= steps; step++ {
		laid, h := writer.Laid(v, step)
		out = append(out, laid, h)
	}
	return out
}

func TestSameness(t *testing.T) {
	all := slices.Concat(wellShaped(100), specimen.Misshapen())
	var want [][]any
	for _, v := range all {
		want = append(want, call(v))
	}
	var crew sync.WaitGroup
	for range 8 {
		crew.Go(func() {
			for i, v := range all {
				if got := call(v); !slices.Equal(got, want[i]) {
					t.Errorf("%v: %v, and %v ahead", v, got, want[i])
				}
			}
		})
	}
	crew.Wait()
}

// The bound on what is nested is met, and what a text costs doesn't grow with the square of its length.
func TestDeepValues(t *testing.T) {
	const levels = 1<<16 - 2
	v := nested(num("1"), levels)
	plain := repeated(`{"a":[`, levels/2) + "1" + repeated("]}", levels/2)
	checkPlain(t, v, plain)
	checkLaid(t, v, 0, repeated("{\n\"a\": [\n", levels/2)+"1"+repeated("\n]\n}", levels/2))
	if s, e := writer.Text(nested(num("01"), levels)); s != "" || e != api.ErrShape {
		t.Errorf("a wrong number, deep inside: %d", e)
	}
}

func TestWideValues(t *testing.T) {
	const many = 1 << 18
	rows, fields := list(), object(nil)
	for i := range many {
		key := string([]byte{'A' + byte(i>>15), 'A' + byte(i>>10&31), 'A' + byte(i>>5&31), 'A' + byte(i&31)})
		rows.Items = append(rows.Items, list(num("-12"), text(key)))
		fields.Keys, fields.Items = append(fields.Keys, key), append(fields.Items, rows.Items[i])
	}
	for _, v := range []api.Value{rows, fields} {
		checkPlain(t, v, plainOf(v))
		checkLaid(t, v, 8, laidOf(v, 8))
	}
	if s, e := writer.Lines(rows.Items); strings.Count(s, "\n") != many || e != api.OK {
		t.Errorf("Lines of many: %d", e)
	}
	checkPlain(t, text(repeated("a\x01", many)), `"`+repeated(`a\u0001`, many)+`"`)
}

func FuzzAny(f *testing.F) {
	f.Add([]byte(""), "", "1")
	f.Add([]byte("\x06\x04\x01\x03\x02"), "x\n", "-7")
	f.Add([]byte("\x05\x03\x06\x02\x01\x06\x04\x03\x03"), "\xff", "-0")
	f.Add([]byte("abcdefghijklmnop"), "\"\\\u007f", "+1")
	f.Fuzz(func(t *testing.T, data []byte, s, digits string) {
		pick := specimen.Picks(data)
		v := list(specimen.Drawn(pick, 4), text(s), object([]string{s}, num(digits)), specimen.DrawnObject(pick, 3))
		if pick(4) == 1 {
			v = specimen.Spoilt(v, pick)
		}
		if !value.Formed(v) {
			refusesShape(t, v)
			return
		}
		checkWords(t, v)
		checkFollows(t, v)
	})
}
