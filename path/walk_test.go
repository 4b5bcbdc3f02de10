package path_test

import (
	"iter"
	"testing"

	"hallmark/api"
	"hallmark/path"
	"hallmark/specimen"
)

// checkWalk goes over all of a sequence again and again, behind what was handed in and what was handed out is written over; and it is left at each place.
func checkWalk(t *testing.T, name string, walk func(api.Value) iter.Seq2[[]api.Value, api.Value], v api.Value, want []api.Value) {
	t.Helper()
	given := specimen.Roomy(v)
	seq := walk(given)
	first := list(gone(seq)...)
	if !specimen.Alike(first, list(want...)) || !specimen.Untouched(given, v) || !specimen.Own(first, given) {
		t.Errorf("%s(%s) goes over %s; v is %s", name, short(v), short(first), short(given))
	}
	specimen.Scribble(given)
	second := list(gone(seq)...)
	if !specimen.Own(second, given, first) {
		t.Errorf("%s(%s): the memory of %s isn't its own", name, short(v), short(second))
	}
	specimen.Scribble(first)
	if third := list(gone(seq)...); !specimen.Alike(second, list(want...)) || !specimen.Alike(third, list(want...)) {
		t.Errorf("%s(%s) goes over %s and %s later", name, short(v), short(second), short(third))
	}
	for stop := 1; stop <= len(want); stop++ {
		checkLeft(t, seq, want, stop)
	}
	if again := list(gone(seq)...); !specimen.Alike(again, list(want...)) {
		t.Errorf("%s(%s) goes over %s behind having been left", name, short(v), short(again))
	}
}

// checkLeft leaves a sequence; one that went on would panic.
func checkLeft(t *testing.T, seq iter.Seq2[[]api.Value, api.Value], want []api.Value, stop int) {
	t.Helper()
	n := 0
	for way, part := range seq {
		if row := list(list(way...), part); !specimen.Alike(row, want[n]) {
			t.Errorf("at %d: %v, want %v", n, row, want[n])
		} else {
			specimen.Scribble(row)
		}
		n++
		if n == stop {
			break
		}
	}
	if n != stop {
		t.Errorf("left at %d, not at %d", n, stop)
	}
}

func checkWalks(t *testing.T, v api.Value) {
	t.Helper()
	ways, _ := formed(v, allFrom)
	checkWalk(t, "All", path.All, v, ways.Items)
	ways, _ = formed(v, leavesOf)
	checkWalk(t, "Leaves", path.Leaves, v, ways.Items)
}

func TestP8_6Examples(t *testing.T) {
	for _, row := range [][3]string{
		{`[5,{"b":[]}]`, `[[[],[5,{"b":[]}]],[[0],5],[[1],{"b":[]}],[[1,"b"],[]]]`, `[[[0],5]]`},
		{`null`, `[[[],null]]`, `[[[],null]]`}, {`7`, `[[[],7]]`, `[[[],7]]`}, {`"x"`, `[[[],"x"]]`, `[[[],"x"]]`}, {`[]`, `[[[],[]]]`, `[]`}, {`{}`, `[[[],{}]]`, `[]`}, {`[[],{}]`, `[[[],[[],{}]],[[0],[]],[[1],{}]]`, `[]`},
		{`{"b":1,"a":[true,{"":null}]}`, `[[[],{"a":[true,{"":null}],"b":1}],[["a"],[true,{"":null}]],[["a",0],true],[["a",1],{"":null}],[["a",1,""],null],[["b"],1]]`, `[[["a",0],true],[["a",1,""],null],[["b"],1]]`},
	} {
		all.is(t, asked{v: js(row[0])}, row[1])
		leaves.is(t, asked{v: js(row[0])}, row[2])
	}
}

func TestP8_6Walks(t *testing.T) {
	for _, v := range specimen.WellShaped(random(86), 300) {
		checkWalks(t, v)
	}
	for _, v := range []string{example, `[[[1,2],{"a":[]}],[[]],null]`, `{"a":{"b":{"c":{"d":[[[0]]]}}},"b":[[],[],{}],"c":""}`, `[0,1,2,3,4,5,6,7,8,9,10,[11,12]]`} {
		checkWalks(t, js(v))
	}
}

func TestP8_6Misshapen(t *testing.T) {
	for _, v := range specimen.Wrong() {
		if path.All(v) == nil || path.Leaves(v) == nil {
			t.Errorf("no sequence of %s", short(v))
		}
		checkWalks(t, v)
	}
}

// Of what is well shaped only behind the call, or only up to it, what counts is what it was at the call.
func TestP8_6AtTheCall(t *testing.T) {
	v := list(num("07"), list(whole(1)))
	none, nothing := path.All(v), path.Leaves(v)
	v.Items[0] = whole(7)
	some, few := path.All(v), path.Leaves(v)
	v.Items[0], v.Items[1].Items[0] = num("07"), kind(9)
	for i, row := range [][2]int{{len(gone(none)), 0}, {len(gone(nothing)), 0}, {len(gone(some)), 4}, {len(gone(few)), 2}} {
		if row[0] != row[1] {
			t.Errorf("sequence %d goes over %d", i, row[0])
		}
	}
}

// A way that is handed out stays what it is while the next ones are, and one may let it grow.
func TestP8_6WaysStay(t *testing.T) {
	v := js(`[[1,2,[3,4]],{"a":[5,6],"b":[7]},8]`)
	for _, want := range [][]api.Value{allFrom(v), leavesOf(v)} {
		seq := path.All(v)
		if len(want) < partsOf(v) {
			seq = path.Leaves(v)
		}
		var kept []api.Value
		for way, part := range seq {
			_ = append(way, text("more"), text("and more"))
			kept = append(kept, list(list(way...), part))
		}
		if !specimen.Alike(list(kept...), list(want...)) {
			t.Errorf("kept are %v, want %v", kept, want)
		}
	}
}

// Goings at once, one within another and one pulled, don't meet.
func TestP8_6AtOnce(t *testing.T) {
	v := js(`[[1,[2,3]],{"a":4,"b":[5]}]`)
	for name, walk := range map[string]func(api.Value) iter.Seq2[[]api.Value, api.Value]{"All": path.All, "Leaves": path.Leaves} {
		seq := walk(v)
		want := gone(seq)
		next, stop := iter.Pull2(seq)
		n := 0
		for way, part := range seq {
			pulled, other, ok := next()
			if !ok || !specimen.Alike(list(list(pulled...), other), want[n]) || !specimen.Alike(list(list(way...), part), want[n]) {
				t.Errorf("%s at %d: %v %v beside %v %v", name, n, way, part, pulled, other)
			}
			if inner := gone(seq); !specimen.Alike(list(inner...), list(want...)) {
				t.Errorf("%s inside: %v", name, inner)
			}
			n++
		}
		stop()
		if n != len(want) {
			t.Errorf("%s: %d of %d", name, n, len(want))
		}
	}
}
