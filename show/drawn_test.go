package show_test

import (
	"slices"
	"testing"

	"hallmark/api"
	"hallmark/show"
	"hallmark/specimen"
	"hallmark/syntax"
)

// checkWords holds Text of a well shaped filter against the chapter's words, and to what follows of it.
func checkWords(t *testing.T, w teller, n api.Node) {
	t.Helper()
	got, e := show.Text(n)
	if want := w.textOf(n); got != want || e != api.OK {
		t.Errorf("Text(%.500s) = %.500q, %d, want %.500q", specimen.ToldFilter(n, false), got, e, want)
		return
	}
	checkAgain(t, n, got)
}

// checkAgain holds a filter's text to being read as the filter, unless it is nested too deep.
func checkAgain(t *testing.T, n api.Node, s string) {
	t.Helper()
	again, e, at := syntax.Parse(s)
	switch {
	case nestOf(s) > api.MaxNest:
		if e != api.ErrNest {
			t.Errorf("Parse(%.500q): %d at %d", s, e, at)
		}
		return
	case e != api.OK || !syntax.Same(again, n) || !specimen.AlikeFilters(again, n):
		t.Errorf("Parse(%.500q) = %.500s, %d at %d, want %.500s", s, specimen.ToldFilter(again, false), e, at, specimen.ToldFilter(n, false))
		return
	}
	if back, e := show.Text(again); back != s || e != api.OK {
		t.Errorf("Text of Parse(%.500q) = %.500q, %d", s, back, e)
	}
}

// forms are well shaped parts of all Ops and with all that they may have, and some more whose texts are the language's own words.
func forms() []api.Node {
	out := specimen.FilterForms()
	for _, s := range []string{"end", "if", "x", "x-y"} {
		out = append(out, text(s), specimen.Part(api.Index, specimen.Part(api.Self), text(s)), specimen.Part(api.Index, call("f"), text(s)), specimen.Part(api.Record, text(s), call("f")))
	}
	return append(out, specimen.Part(api.Try, call("f")), specimen.Part(api.Neg, specimen.Part(api.Neg, call("f"))), specimen.Part(api.Index, specimen.Constant(specimen.Num("1")), text("a")))
}

// Each form as each kid of each form.
func TestP18_2FormsInForms(t *testing.T) {
	w, all := newTeller(), forms()
	for _, n := range all {
		checkWords(t, w, n)
		for at := range n.Kids {
			for _, kid := range all {
				if mayChange(n, at) {
					checkWords(t, w, withKid(n, at, kid))
				}
			}
		}
	}
}

// Each Op in each place of each Op in each place of each Op.
func TestP18_2ThreeDeep(t *testing.T) {
	t.Parallel()
	w := newTeller()
	for _, inner := range slices.Concat(least(), most()) {
		for _, middle := range aroundBy(inner) {
			for _, n := range aroundBy(middle) {
				checkWords(t, w, n)
			}
		}
	}
}

// withKid is a part with another kid at a place.
func withKid(n api.Node, at int, kid api.Node) api.Node {
	n.Kids = slices.Clone(n.Kids)
	n.Kids[at] = kid
	return n
}

// aroundBy are parts of all Ops, with as few kids as they may have and with as many, and with this one as each of them.
func aroundBy(kid api.Node) []api.Node {
	var out []api.Node
	for _, n := range slices.Concat(least(), most()) {
		for at := range min(len(n.Kids), 4) {
			if mayChange(n, at) {
				out = append(out, withKid(n, at, kid))
			}
		}
	}
	return out
}

// least are parts of all Ops, with as few kids as they may have.
func least() []api.Node {
	var out []api.Node
	for op := api.Self; op <= api.ElseTo; op++ {
		out = append(out, whole(op, specimen.KidCounts(op)[0]))
	}
	return out
}

// most are those that may have more, with as many as they may have.
func most() []api.Node {
	var out []api.Node
	for op := api.Self; op <= api.ElseTo; op++ {
		if counts := specimen.KidCounts(op); len(counts) > 1 {
			out = append(out, whole(op, counts[len(counts)-1]))
		}
	}
	return out
}

// whole is a part of an Op with so many kids.
func whole(op, many int) api.Node {
	n := specimen.OfOp(op, slices.Repeat([]api.Node{text("a")}, many)...)
	if op == api.Const {
		n.Value = specimen.Num("7")
	}
	return n
}

func TestP18_2Drawn(t *testing.T) {
	w, pick := newTeller(), pickOf(1821)
	for i := range 20000 {
		checkWords(t, w, specimen.DrawnFilter(pick, 1+i%6))
	}
}

// Filters that are drawn deep in one place, so that some of their texts are nested too deep.
func TestP18_2DrawnDeep(t *testing.T) {
	w, pick := newTeller(), pickOf(1822)
	tooDeep := 0
	for range 1000 {
		n := specimen.DrawnFilter(pick, 2)
		for range pick(250) {
			n = drawnAround(pick, n)
		}
		checkWords(t, w, n)
		if s, _ := show.Text(n); nestOf(s) > api.MaxNest {
			tooDeep++
		}
	}
	if tooDeep < 100 || tooDeep > 900 {
		t.Errorf("%d of 1000 are nested too deep", tooDeep)
	}
}

// drawnAround is a part that is drawn, with this one as a kid.
func drawnAround(pick specimen.Source, kid api.Node) api.Node {
	for {
		n := specimen.DrawnFilter(pick, 2)
		if len(n.Kids) == 0 {
			continue
		}
		if at := pick(len(n.Kids)); mayChange(n, at) {
			n.Kids[at] = kid
			return n
		}
	}
}

// mayChange says whether any part may stand at the place of a kid.
func mayChange(n api.Node, at int) bool {
	return n.Kids[at].Op != api.None && (n.Op != api.Join || at%2 == 1)
}
