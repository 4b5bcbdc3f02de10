package eval_test

import (
	"testing"

	"hallmark/api"
	"hallmark/eval"
	"hallmark/library"
	"hallmark/specimen"
	"hallmark/syntax"
)

func TestP23_3Drawn(t *testing.T) {
	pick := pickOf(2371)
	inputs := specimen.FittingInputs()
	ends, outs := [3]int{}, 0
	for i := range 6000 {
		n, v := specimen.ClosedFilter(pick, 3+i%6), inputs[pick(len(inputs))]
		if pick(4) == 0 {
			v = specimen.Drawn(pick, 3)
		}
		o := checkWords(t, n, v, 600)
		ends[o.end]++
		if len(o.outs) > 1 {
			outs++
		}
	}
	if ends[api.Done] < 2500 || ends[api.Failed] < 1500 || ends[api.Spent] < 40 || outs < 600 {
		t.Errorf("ends: %v, with several outputs %d", ends, outs)
	}
}

// Drawn filters within others, which they are handed to, which bind what they may ask for, and which catch what they end with.
func TestP23_3DrawnWithin(t *testing.T) {
	pick := pickOf(2372)
	inputs := specimen.FittingInputs()
	for range 500 {
		a, b := specimen.ClosedFilter(pick, 4), specimen.ClosedFilter(pick, 4)
		v := inputs[pick(len(inputs))]
		hand := specimen.NamedPart(api.Call, "h", a, b)
		body := specimen.Part(api.Both, specimen.Part(api.Try, specimen.NamedPart(api.Call, "g"), specimen.Part(api.List, specimen.Part(api.Self))), specimen.NamedPart(api.Label, "l", specimen.Part(api.Pipe, specimen.NamedPart(api.Call, "g"), specimen.Part(api.Both, specimen.NamedPart(api.Call, "k"), specimen.NamedPart(api.Break, "l")))))
		for _, names := range [][]string{{"g", "k"}, {"$g", "k"}, {"g", "$k"}, {"$g", "$k"}} {
			checkWords(t, specimen.Definition("h", names, body, hand), v, 500)
		}
	}
}

func FuzzAny(f *testing.F) {
	for _, x := range [][2]string{{"", "null"}, {".[] | .a?", `[{"a":1},2]`}, {"def f(g; $n): g, $n; f(1; 2, 3)", "null"}, {"label $l | foreach .[] as $x (0; . + $x; ., if . > 2 then break $l else empty end)", "[1,2,3]"}, {`try error("x") catch .`, "1"}, {`"a\(.[])b"`, "[1,null]"}, {"path(.. | .a?)", `{"a":[{"a":1}]}`}, {"(.a, .b) // {(.c): .d}", `{"c":"x","d":1}`}, {"[limit(3; range(0; 9))] | map(. * 2) | .[1:]", "null"}, {"reduce range(0; .) as $i (0; . + $i)", "5"}, {"\x20\x00\x01\x20\x02\x05\x21\x1f", "{}"}, {"getpath([\"a\", 0])?, setpath([]; 1)", "null"}} {
		f.Add(x[0], x[1])
	}
	f.Fuzz(func(t *testing.T, s, in string) {
		pick := specimen.Picks([]byte(in + s))
		v := specimen.ReadOrDrawn(in, pick)
		n, e, _ := syntax.Parse(s)
		if e == api.OK {
			n, e, _ = library.With(n)
		}
		if e != api.OK || !eval.Plain(n) {
			refuses(t, n, v, 50, api.ErrShape)
		} else {
			checkWords(t, n, v, 300)
			checkMemory(t, n, v, 300)
			checkFollows(t, n, v, upToFuel(20))
		}
		checkWords(t, specimen.ClosedFilter(pick, 5), v, 300)
		refuses(t, specimen.SpoiltFilter(specimen.ClosedFilter(pick, 5), pick), v, 50, api.ErrShape)
	})
}
