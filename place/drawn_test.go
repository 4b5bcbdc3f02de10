package place_test

import (
	"testing"

	"hallmark/api"
	"hallmark/library"
	"hallmark/scope"
	"hallmark/specimen"
	"hallmark/syntax"
)

func TestP24_1Drawn(t *testing.T) {
	pick := pickOf(2471)
	for i := range 6000 {
		n := placed(specimen.ChangingFilter(pick, 1+i%7), pick(100)-50)
		checkPlain(t, n)
		if i%60 == 0 {
			for _, n := range specimen.NudgedFilters(n) {
				checkPlain(t, n)
			}
		}
	}
}

func TestP24_2RunsDrawn(t *testing.T) {
	pick := pickOf(2472)
	all := inputs()
	ends, outs := [3]int{}, 0
	for i := range 2500 {
		n, v := specimen.ChangingFilter(pick, 3+i%5), all[pick(len(all))]
		if pick(4) == 0 {
			v = specimen.Drawn(pick, 3)
		}
		r := checkRuns(t, n, v, 600)
		ends[r.End]++
		if len(r.Outs) > 1 {
			outs++
		}
	}
	if ends[api.Done] < 900 || ends[api.Failed] < 600 || ends[api.Spent] < 12 || outs < 180 {
		t.Errorf("ends: %v, with several outputs %d", ends, outs)
	}
}

// Changes of drawn filters, held to how the chapter tells them.
func TestP24_3Drawn(t *testing.T) {
	pick := pickOf(2473)
	all := inputs()
	tried := 0
	for range 6000 {
		n := specimen.ChangingFilter(pick, 5)
		if n.Op < api.Put {
			continue
		}
		a, b := n.Kids[0], n.Kids[1]
		v := all[pick(len(all))]
		ea, _ := scope.Check(a)
		if eb, _ := scope.Check(b); ea != api.OK || eb != api.OK || spends(t, n, v) {
			continue
		}
		checkChange(t, n.Op, a, b, v)
		tried++
	}
	if tried < 500 {
		t.Errorf("only %d are tried", tried)
	}
}

// spends says whether a run costs very much.
func spends(t *testing.T, n api.Node, v api.Value) bool {
	t.Helper()
	r, _ := runs().Run(n, v, enough/10)
	return r.End == api.Spent
}

func FuzzAny(f *testing.F) {
	for _, x := range [][2]string{{"", "null"}, {".[] |= .a?", `[{"a":1},2]`}, {"def f(_; $__): .a += _; f(1; 2, 3)", "null"}, {"label $_ | .[] //= (1, break $_)", "[1,null,3]"}, {". as $_ | .a = ($_ | .b -= 1)", `{"b":2}`}, {`"a\(.[] = 1)b"`, "[1,null]"}, {"(.. | .a?) %= 2", `{"a":[{"a":1}]}`}, {"._ *= 2 | .__ /= 2", `{"_":"x","__":1}`}, {"reduce range(0; .) as $___ (0; . |= $___)", "5"}, {"\x20\x00\x01\x20\x02\x05\x21\x1f", "{}"}, {"map(.[0] = 1)?, walk(. = 1)", "[[2]]"}} {
		f.Add(x[0], x[1])
	}
	f.Fuzz(func(t *testing.T, s, in string) {
		pick := specimen.Picks([]byte(in + s))
		v := specimen.ReadOrDrawn(in, pick)
		n, e, _ := syntax.Parse(s)
		if e == api.OK {
			checkPlain(t, n)
			n, e, _ = library.With(n)
		}
		if e != api.OK {
			refuses(t, n, v, 50, api.ErrShape)
			n = specimen.ChangingFilter(pick, 5)
		}
		checkPlain(t, n)
		checkRuns(t, n, v, 300)
		checkMemory(t, n, v, 300)
		if op := api.Put + len(s)%8; !spends(t, specimen.Part(op, n, n), v) {
			checkChange(t, op, n, n, v)
		}
		spoilt := specimen.SpoiltFilter(specimen.ChangingFilter(pick, 5), pick)
		checkPlain(t, spoilt)
		refuses(t, spoilt, v, 50, api.ErrShape)
	})
}
