package place_test

import (
	"math/rand"
	"strconv"
	"testing"

	"hallmark/api"
	"hallmark/library"
	"hallmark/place"
	"hallmark/show"
	"hallmark/specimen"
	"hallmark/syntax"
	"hallmark/writer"
)

func pickOf(seed int64) specimen.Source { return rand.New(rand.NewSource(seed)).Intn }

// runs are the calls that give outputs.
func runs() specimen.Runs { return specimen.Runs{Run: place.Run, Steps: place.Steps} }

// read is the filter of a text.
func read(t *testing.T, s string) api.Node {
	t.Helper()
	n, e, at := syntax.Parse(s)
	if e != api.OK {
		t.Fatalf("Parse(%.300q): %d at %d", s, e, at)
	}
	return n
}

// parsed is it with what it needs of the library in front.
func parsed(t *testing.T, s string) api.Node {
	t.Helper()
	n, e, at := library.With(read(t, s))
	if e != api.OK {
		t.Fatalf("With(%.300q): %d at %d", s, e, at)
	}
	return n
}

func told(n api.Node) string { return specimen.ToldFilter(n, true) }

// json is a value as a text.
func json(v api.Value) string {
	s, e := writer.Text(v)
	if e != api.OK {
		return "no value"
	}
	return s
}

// plain is what Plain makes of a filter that is well shaped.
func plain(t *testing.T, n api.Node) api.Node {
	t.Helper()
	out, e := place.Plain(n)
	if e != api.OK {
		t.Errorf("Plain(%.500s): %d", told(n), e)
	}
	return out
}

// changes are the Ops of changes, by what stands for them in texts.
func changes() map[string]int {
	return map[string]int{"=": 36, "|=": 37, "+=": 38, "-=": 39, "*=": 40, "/=": 41, "%=": 42, "//=": 43}
}

// line is a filter with an input, and what its run comes to.
type line struct {
	filter, in string
	outs       string // as documents
	fault      string // as a document; empty, if the run is Done
	price      int    // of the whole run; 0: it isn't told
}

// far is as much as lines cost at most.
const far = 5000

// checkLines holds runs to what stands here, and to the words.
func checkLines(t *testing.T, lines []line) {
	t.Helper()
	for _, x := range lines {
		n, v := parsed(t, x.filter), specimen.JSON(x.in)
		left, end := checkRuns(t, n, v, far).Left, "done"
		if x.price > 0 {
			left = far - x.price
		}
		if x.fault != "" {
			end = "failed with " + x.fault
		}
		want := x.outs + " " + end + ", left " + strconv.Itoa(left)
		if got := runs().Told(n, v, far); got != want {
			t.Errorf("Run(%s) on %s = %s, want %s", x.filter, x.in, got, want)
		}
	}
}

// checkTexts holds Plain to texts that are the same when they are written.
func checkTexts(t *testing.T, texts map[string]string) {
	t.Helper()
	for in, want := range texts {
		checkPlain(t, read(t, in))
		if got, e := show.Text(plain(t, read(t, in))); got != want || e != api.OK {
			t.Errorf("Plain(%s) = %s, %d, want %s", in, got, e, want)
		}
	}
}

func TestExamples(t *testing.T) {
	checkTexts(t, map[string]string{
		".a |= . + 1":       "reduce path(.a) as $_ (.; setpath($_; reduce (getpath($_) | . + 1) as $__ (null; $__)))",
		".a = 1":            "1 as $__ | reduce path(.a) as $_ (.; setpath($_; $__))",
		". as $_ | .a = $_": ". as $_ | $_ as $___ | reduce path(.a) as $__ (.; setpath($__; $___))",
	})
	checkLines(t, []line{
		{".a |= . + 1", `{"a":1}`, `{"a":2}`, "", 0},
		{".a = (1, 2)", "null", `{"a":1} {"a":2}`, "", 0},
		{".[] += 1", "[1,2]", "[2,3]", "", 0},
		{".[] |= empty", "[1,2]", "[null,null]", "", 0},
		{".a //= 5", `{"a":false}`, `{"a":5}`, "", 0},
		{".a //= 5", `{"a":0}`, `{"a":0}`, "", 0},
		{"(.a, .b) = 1", "null", `{"a":1,"b":1}`, "", 0},
		{"1 |= 2", "null", "", `"path"`, 0},
		{".a |= 1", "5", "", `"index"`, 0},
		{".[-1] = 0", "[]", "", `"setpath"`, 0},
		{".a[1] = 1", "null", `{"a":[null,1]}`, "", 0},
		{".a |= (.b |= 3)", "{}", `{"a":{"b":3}}`, "", 0},
	})
	r, e := place.Run(read(t, ".a |= . + 1"), specimen.JSON(`{"a":1,"b":[]}`), 1000)
	if specimen.ToldResult(r) != `{"a":2,"b":[]} done, left 960` || e != api.OK {
		t.Errorf("%s, %d", specimen.ToldResult(r), e)
	}
}
