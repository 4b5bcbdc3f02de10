package path_test

import (
	"fmt"
	"iter"
	"slices"
	"strings"
	"sync"
	"testing"

	"hallmark/api"
	"hallmark/path"
	"hallmark/specimen"
	"hallmark/value"
)

// answers says whether a call's answer is this value.
func answers(want api.Value) func(got api.Value, e api.Errno) bool {
	return func(got api.Value, e api.Errno) bool { return e == api.OK && specimen.Alike(got, want) }
}

// checkParts holds All to Get: as many ways as there are parts, none twice, each of them leading to its part.
func checkParts(t *testing.T, v api.Value) {
	t.Helper()
	seen := map[string]bool{}
	for way, part := range path.All(v) {
		if !answers(part)(path.Get(v, way)) || seen[toldWay(way)] {
			t.Errorf("%s: the way %v leads to %s", short(v), way, short(part))
		}
		if !answers(v)(path.Put(v, way, part)) {
			t.Errorf("%s: Put at %v of what is there", short(v), way)
		}
		seen[toldWay(way)] = true
	}
	if len(seen) != partsOf(v) {
		t.Errorf("%s has %d ways", short(v), len(seen))
	}
}

// checkPut holds Get, Put and Drop to one another at a way that is there or has no numbers below 0.
func checkPut(t *testing.T, v api.Value, p []api.Value, x, y api.Value) {
	t.Helper()
	put, e := path.Put(v, p, x)
	if e != api.OK {
		return
	}
	if !answers(x)(path.Get(put, p)) {
		t.Errorf("Put(%s, %v, %s) = %s: Get isn't what was put", short(v), p, short(x), short(put))
	}
	other, e := path.Put(v, p, y)
	if e != api.OK || !answers(put)(path.Put(other, p, x)) {
		t.Errorf("Put(%s, %v, %s) behind %s", short(v), p, short(x), short(other))
	}
	if !thereOf(v, p) {
		return
	}
	part, _ := path.Get(v, p)
	less, _ := path.Drop(v, p)
	if !answers(v)(path.Put(v, p, part)) || !answers(less)(path.Drop(put, p)) {
		t.Errorf("%s at %v: Put of what is there, or Drop of what was put", short(v), p)
	}
}

// checkOthers: what lies neither on the way nor behind its end stays what it was.
func checkOthers(t *testing.T, v api.Value, p []api.Value, x api.Value) {
	t.Helper()
	put, e := path.Put(v, p, x)
	if e != api.OK {
		return
	}
	at := toldWay(plainOf(v, p))
	for way, part := range path.All(v) {
		q := toldWay(way)
		if !strings.HasPrefix(q, at) && !strings.HasPrefix(at, q) && (!thereOf(put, way) || !answers(part)(path.Get(put, way))) {
			t.Errorf("Put(%s, %v, %s) changed %v", short(v), p, short(x), way)
		}
	}
}

// checkDrops: the order of ways is nothing to Drops, nor is how often one stands there, and of one it is Drop.
func checkDrops(t *testing.T, v api.Value, l [][]api.Value) {
	t.Helper()
	for _, p := range l {
		less, e := path.Drop(v, p)
		if got, f := path.Drops(v, [][]api.Value{p}); e != f || !specimen.Alike(got, less) {
			t.Errorf("Drop(%s, %v) = %s, %d, Drops %s, %d", short(v), p, short(less), e, short(got), f)
		}
	}
	less, e := path.Drops(v, l)
	if e != api.OK {
		return
	}
	turned := slices.Clone(l)
	slices.Reverse(turned)
	for _, other := range [][][]api.Value{turned, slices.Concat(l, l), slices.Concat(turned, l), append(turned[len(l)/2:], turned[:len(l)/2]...)} {
		if !answers(less)(path.Drops(v, other)) {
			t.Errorf("Drops(%s, %v) isn't that of %v", short(v), l, other)
		}
	}
}

func checkFollows(t *testing.T, v api.Value, l [][]api.Value, x, y api.Value) {
	t.Helper()
	checkParts(t, v)
	checkDrops(t, v, l)
	for _, p := range l {
		below := slices.ContainsFunc(p, func(key api.Value) bool { return strings.HasPrefix(key.Num, "-") })
		if !below || thereOf(v, p) {
			checkPut(t, v, p, x, y)
		}
		checkOthers(t, v, p, x)
	}
}

func TestP8_7Follows(t *testing.T) {
	pick := random(87)
	of := specimen.WellShaped(pick, 100)
	for _, v := range specimen.WellShaped(pick, 600) {
		var l [][]api.Value
		for range pick(6) {
			l = append(l, drawnWay(pick, v, 5), drawnThere(pick, v))
		}
		checkFollows(t, v, l, of[pick(len(of))], of[pick(len(of))])
	}
}

func TestP8_1P8_2P8_3P8_4P8_5P8_6Words(t *testing.T) {
	pick := random(8)
	of := specimen.WellShaped(pick, 100)
	for _, v := range specimen.WellShaped(pick, 1500) {
		var l [][]api.Value
		for range pick(6) {
			l = append(l, drawnThere(pick, v), drawnWay(pick, v, 5))
		}
		x := of[pick(len(of))]
		checkAll(t, asked{v, l, x})
		for _, p := range l {
			checkAll(t, asked{v, [][]api.Value{p}, x})
		}
		sure := slices.DeleteFunc(slices.Clone(l), func(p []api.Value) bool { return !thereOf(v, p) || len(p) == 0 })
		drops.check(t, asked{v, sure, x})
		if len(l) > 0 {
			at := pick(len(l))
			l[at] = spoiltWay(pick, l[at])
			checkAll(t, asked{v, l, x})
			checkAll(t, asked{v, l[at:], specimen.Spoilt(x, pick)})
		}
		checkAll(t, asked{specimen.Spoilt(v, pick), l, x})
	}
}

// Lists that are nil and empty ones are no different.
func TestEmptyLists(t *testing.T) {
	for _, v := range []api.Value{{}, list(), object(nil), whole(1), text("x")} {
		w := v
		w.Items, w.Keys = make([]api.Value, 0, 3), make([]string, 0, 3)
		for _, p := range [][]api.Value{nil, {}, {text("a")}, {whole(0)}, {whole(-1)}} {
			checkAll(t, asked{w, [][]api.Value{p}, w})
			for _, c := range allCalls() {
				a, e := c.do(asked{v, [][]api.Value{p}, v})
				if b, f := c.do(asked{w, [][]api.Value{p}, w}); e != f || !specimen.Alike(a, b) {
					t.Errorf("%s of %v and %v: %v, %d and %v, %d", c.name, v, p, a, e, b, f)
				}
			}
		}
	}
	for _, l := range [][][]api.Value{nil, {}} {
		drops.is(t, asked{v: js(example), l: l}, example)
	}
}

// A list that stands in a value twice, in a way or in what is put is in the answer each time for itself.
func TestMemoryOfSharedLists(t *testing.T) {
	shared := specimen.Roomy(js(`{"a":[1,2,{"b":[3]}],"c":[[]]}`))
	v := list(shared, object([]string{"a", "b"}, shared, shared), shared)
	p := []api.Value{whole(1), text("a"), text("a"), whole(-1)}
	for _, a := range []asked{{v, [][]api.Value{p}, shared}, {v, [][]api.Value{p, p, p[:1]}, v}, {v, nil, v}, {v, [][]api.Value{{whole(5)}, p}, v.Items[1]}} {
		for _, c := range allCalls() {
			want, code := c.want(a)
			got, e := c.do(a)
			if e != code || !specimen.Alike(got, want) || !specimen.Own(got, a.v, a.x, list(p...)) {
				t.Errorf("%s = %s, %d, want %s, %d", c.name, short(got), e, short(want), code)
			}
			want = value.Twin(want)
			specimen.Scribble(got)
			if again, _ := c.do(a); !specimen.Alike(again, want) {
				t.Errorf("%s = %s, behind what was written into its answer", c.name, short(again))
			}
		}
	}
}

func TestSameness(t *testing.T) {
	pick := random(5)
	var rows []asked
	for _, v := range specimen.WellShaped(pick, 30) {
		rows = append(rows, asked{v, [][]api.Value{drawnWay(pick, v, 4), drawnThere(pick, v), drawnThere(pick, v)}, v})
	}
	seqs := map[int]iter.Seq2[[]api.Value, api.Value]{}
	for i, a := range rows {
		seqs[i] = path.All(a.v)
	}
	answers := func() string {
		var out strings.Builder
		for i, a := range rows {
			for _, c := range allCalls() {
				got, e := c.do(a)
				out.WriteString(fmt.Sprintln(got, e))
			}
			out.WriteString(fmt.Sprintln(gone(seqs[i])))
		}
		return out.String()
	}
	want := answers()
	var crew sync.WaitGroup
	for range 8 {
		crew.Go(func() {
			for range 10 {
				if got := answers(); got != want {
					t.Error("another answer")
				}
			}
		})
	}
	crew.Wait()
}

// wayDown is the way to the innermost part of a value that specimen.Nested has made.
func wayDown(v api.Value) []api.Value {
	var out []api.Value
	for ; len(v.Items) > 0; v = v.Items[0] {
		out = append(out, keyAt(v, 0))
	}
	return out
}

// The bound on what is nested is met.
func TestDeepValues(t *testing.T) {
	const levels = 1<<16 - 2
	v := specimen.Nested(num("1"), levels)
	p := wayDown(v)
	if len(p) != levels || !answers(num("1"))(path.Get(v, p)) {
		t.Error("Get", len(p))
	}
	if put, e := path.Put(v, p, num("2")); e != api.OK || !value.Same(put, specimen.Nested(num("2"), levels)) {
		t.Error("Put", e)
	}
	if less, e := path.Drop(v, p); e != api.OK || len(wayDown(less)) != levels-1 {
		t.Error("Drop", e)
	}
	if less, e := path.Drops(v, [][]api.Value{p, p[:levels/2], p}); e != api.OK || len(wayDown(less)) != levels/2-1 {
		t.Error("Drops", e)
	}
	if _, e := path.Put(v, append(p, text("a")), num("2")); e != api.ErrStep {
		t.Error("Put of one key more", e)
	}
	rows := gone(path.Leaves(v))
	if len(rows) != 1 || !slices.EqualFunc(rows[0].Items[0].Items, p, specimen.Alike) || rows[0].Items[1].Num != "1" {
		t.Error("Leaves", len(rows))
	}
	n := 0
	for way, part := range path.All(v) {
		if len(way) != n || n == 3 {
			break
		}
		if got, e := path.Get(v, p[:n]); e != api.OK || !value.Same(got, part) {
			t.Error("All", n)
		}
		n++
	}
	if n != 3 {
		t.Error("All", n)
	}
}

// A way may be far longer than any value is deep.
func TestLongWays(t *testing.T) {
	const keys = 1 << 20
	p := slices.Repeat([]api.Value{text("a"), whole(0)}, keys/2)
	put, e := path.Put(api.Value{}, p, text("x"))
	if down := wayDown(put); e != api.OK || !slices.EqualFunc(down, p, specimen.Alike) {
		t.Error("Put", e, len(down))
	}
	v := js(example)
	if _, e := path.Get(v, p); e != api.ErrStep {
		t.Error("Get", e)
	}
	for _, v := range []api.Value{{}, object(nil)} {
		if !answers(api.Value{})(path.Get(v, p)) || !answers(v)(path.Drop(v, p)) {
			t.Error("Get or Drop", v)
		}
	}
	if _, e := path.Put(api.Value{}, append(p, whole(-1)), text("x")); e != api.ErrFront {
		t.Error("Put", e)
	}
}

// What it costs doesn't grow with the square of how many items, fields and ways there are.
func TestManyValues(t *testing.T) {
	const many = 1 << 17
	array, fields := list(), object(nil)
	var items, names [][]api.Value
	for i := range many {
		array.Items = append(array.Items, whole(i))
		fields.Items, fields.Keys = append(fields.Items, whole(i)), append(fields.Keys, fmt.Sprintf("%07d", i))
		if i%4 != 3 {
			items = append(items, []api.Value{whole((i + many/2) % many)})
			names = append(names, []api.Value{text(fmt.Sprintf("%07d", many-1-i))})
		}
	}
	if less, e := path.Drops(array, slices.Concat(items, items)); e != api.OK || len(less.Items) != many/4 || less.Items[1].Num != "7" {
		t.Error("Drops of items", e, len(less.Items))
	}
	if less, e := path.Drops(fields, slices.Concat(names, names)); e != api.OK || len(less.Items) != many/4 || less.Keys[1] != "0000004" {
		t.Error("Drops of fields", e, len(less.Items))
	}
	deep := specimen.Nested(array, 40)
	down := wayDown(deep)
	var inner [][]api.Value
	for _, p := range items {
		inner = append(inner, append(slices.Clone(down[:40]), p...))
	}
	if less, e := path.Drops(deep, inner); e != api.OK || partsOf(less) != 40+1+many/4 {
		t.Error("Drops of items that lie deep", e, partsOf(less))
	}
	for _, v := range []api.Value{array, fields, deep} {
		if n := len(gone(path.Leaves(v))); n != many {
			t.Error("Leaves", n)
		}
	}
	if n := len(gone(path.All(fields))); n != many+1 {
		t.Error("All", n)
	}
}

func FuzzAny(f *testing.F) {
	for _, s := range []string{"", "\x06\x04\x01\x03\x02", "\x05\x03\x06\x02\x01\x06\x04\x03\x03", "abcdefghijklmnopqrstuvwxyz", "\x05\x03\x05\x03\x05\x02\x03\x01\x03\x02\x05\x01\x04\x01\x05\x02\x04\x01\x00\x01\x02\x01\x03\x02\x01"} {
		f.Add([]byte(s))
	}
	f.Fuzz(func(t *testing.T, data []byte) {
		pick := specimen.Picks(data)
		v, x, y := specimen.Drawn(pick, 4), specimen.Drawn(pick, 2), specimen.Drawn(pick, 2)
		var l [][]api.Value
		for range pick(6) {
			l = append(l, drawnWay(pick, v, 5), drawnThere(pick, v))
		}
		checkFollows(t, v, l, x, y)
		checkWalks(t, v)
		checkAll(t, asked{v, l, x})
		for _, p := range l {
			checkAll(t, asked{v, [][]api.Value{p}, x})
		}
		if len(l) > 0 && pick(4) == 1 {
			at := pick(len(l))
			l[at] = spoiltWay(pick, l[at])
			checkAll(t, asked{v, l, x})
			checkAll(t, asked{v, l[at:], x})
		}
		checkAll(t, asked{specimen.Spoilt(v, pick), l, x})
	})
}
