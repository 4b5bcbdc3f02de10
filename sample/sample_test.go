package sample_test

import (
	"iter"
	"math"
	"runtime"
	"slices"
	"testing"
	"time"

	"hallmark/api"
	"hallmark/sample"
	"hallmark/shape"
	"hallmark/specimen"
	"hallmark/value"
)

// is holds all calls to the samples of a type that are written out, which are those of the words.
func is(t *testing.T, a api.Type, want string) {
	t.Helper()
	isRow(t, a, js(want))
}

func isRow(t *testing.T, a api.Type, want []api.Value) {
	t.Helper()
	if words := samplesOf(a, 0); !alikeRows(words, want) {
		t.Errorf("of %s: by the words %s, want %s", short(a), row(words), row(want))
	}
	answers(t, a, want)
}

// check holds all calls to the words.
func check(t *testing.T, a api.Type) {
	t.Helper()
	answers(t, a, samplesOf(a, 0))
}

// answers holds all calls to a row of samples, and to the rules of memory.
func answers(t *testing.T, a api.Type, want []api.Value) {
	t.Helper()
	given := specimen.RoomyType(a)
	all := slices.Collect(sample.Values(given))
	if !alikeRows(all, want) {
		t.Errorf("Values(%s): %s, want %s", short(a), row(all), row(want))
	}
	own(t, all, given)
	for _, n := range []int{math.MinInt, -1, 0, 1, 2, len(want) - 1, len(want), len(want) + 1, 1 << 40, math.MaxInt} {
		got := sample.First(given, n)
		if !alikeRows(got, want[:max(min(n, len(want)), 0)]) {
			t.Errorf("First(%s, %d): %s, want the first of %s", short(a), n, row(got), row(want))
		}
		own(t, got, given)
	}
	one, ok := sample.Some(given)
	if ok != (len(want) > 0) || ok && !specimen.Alike(one, want[0]) || !ok && !specimen.Alike(one, api.Value{}) {
		t.Errorf("Some(%s) = %s, %v", short(a), row([]api.Value{one}), ok)
	}
	own(t, []api.Value{one}, given)
	if !specimen.UntouchedType(given, a) {
		t.Errorf("%s was changed", short(a))
	}
}

// own: values are in memory of their own; they are written into.
func own(t *testing.T, got []api.Value, given api.Type) {
	t.Helper()
	all := specimen.List(got...)
	if !specimen.PlacesOf(all).Apart(specimen.PlacesOfTypes(given)) {
		t.Errorf("of %s: values in memory that isn't their own", short(given))
	}
	specimen.Scribble(all)
}

func TestExamples(t *testing.T) {
	is(t, nums("3", "5"), "3 5")
	is(t, nums("5", ""), "5 10 100000000000000000000")
	is(t, anyNumber, "0 1 -1 2 10 -7 100000000000000000000")
	is(t, with(null, texts("b")), `null "b"`)
	is(t, never, "")
	is(t, arrays(nums("1", "1"), 0, -1), "[] [1] [1,1]")
	is(t, arrays(both, 2, 2), "[null,true] [true,null]")
	is(t, arrays(never, 0, 0), "[]")
	is(t, arrays(null, 5000, -1), "")
	is(t, objects(objOf(never, []string{"k!", "l"}, nums("1", "2"), null)), `{"k":1} {"k":1,"l":null} {"k":2} {"k":2,"l":null}`)
	is(t, objects(objOf(truth, nil)), `{} {"x":true}`)
	is(t, objects(objOf(null, []string{"x!"}, truth)), `{"x":true} {"x":true,"xx":null}`)
	if got := sample.First(anyNumber, 2); !alikeRows(got, js("0 1")) {
		t.Errorf("the first two numbers: %v", got)
	}
	if got := sample.First(anyNumber, -1); len(got) > 0 {
		t.Errorf("fewer than none: %v", got)
	}
	if got, ok := sample.Some(with(null, anyNumber)); !ok || !specimen.Alike(got, api.Value{}) {
		t.Errorf("null: %v, %v", got, ok)
	}
	if got, ok := sample.Some(never); ok || !specimen.Alike(got, api.Value{}) {
		t.Errorf("of never: %v, %v", got, ok)
	}
}

// rich has samples of each kind, several inside others.
func rich() api.Type {
	inner := with(objects(objOf(nums("1", "3"), []string{"a!", "b"}, every, texts("p", "q"))), arrays(both, 1, 3))
	return with(with(with(both, nums("-2", "")), texts("s", "t")), with(arrays(inner, 0, -1), objects(objOf(inner, []string{"a!", "b"}, inner, arrays(inner, 2, -1)))))
}

// Left at each value, and gone through again from the first one on.
func TestP14_1Left(t *testing.T) {
	for _, a := range []api.Type{rich(), every, null, nums("1", "2"), anyArray, anyObject} {
		want := samplesOf(a, 0)
		seq := sample.Values(a)
		for last := range want {
			var got []api.Value
			for v := range seq {
				got = append(got, v)
				if len(got) == last+1 {
					break
				}
			}
			if !alikeRows(got, want[:last+1]) {
				t.Errorf("%s, left at %d: %s", short(a), last, row(got))
			}
		}
		for range 3 {
			if got := slices.Collect(seq); !alikeRows(got, want) {
				t.Errorf("%s, gone through again: %s", short(a), row(got))
			}
		}
	}
}

// Two ways through one sequence by turns, and one way inside another one.
func TestP14_1ByTurns(t *testing.T) {
	want := samplesOf(rich(), 0)
	seq := sample.Values(rich())
	ahead, stopAhead := iter.Pull(seq)
	defer stopAhead()
	ahead()
	behind, stopBehind := iter.Pull(seq)
	defer stopBehind()
	for i := range want {
		x, more := ahead()
		y, too := behind()
		if more != (i+1 < len(want)) || more && !specimen.Alike(x, want[i+1]) || !too || !specimen.Alike(y, want[i]) {
			t.Fatalf("at %d: %v, %v; %v, %v", i, x, more, y, too)
		}
	}
	if _, more := behind(); more {
		t.Error("there is more than there should be")
	}
	i := 0
	for v := range seq {
		if inner := slices.Collect(seq); !alikeRows(inner, want) || !specimen.Alike(v, want[i]) {
			t.Errorf("at %d: %v, inside: %s", i, v, row(inner))
		}
		i++
	}
	if i != len(want) {
		t.Errorf("%d of %d", i, len(want))
	}
}

// What was handed in is written over ahead of the first value, between two, and behind the last one; so is each value that was given.
func TestP14_1WrittenOver(t *testing.T) {
	for _, a := range []api.Type{rich(), texts("a", "b", "c"), nums("3", "4"), arrays(texts("a", "b"), 0, -1), anyObject} {
		want := samplesOf(a, 0)
		for at := range len(want) + 1 {
			given := specimen.RoomyType(a)
			seq := sample.Values(given)
			i := 0
			if at == 0 {
				specimen.ScribbleType(given)
			}
			for v := range seq {
				if i++; i == at {
					specimen.ScribbleType(given)
				}
				if !specimen.Alike(v, want[i-1]) {
					t.Fatalf("%s, written over at %d: number %d is %v", short(a), at, i-1, v)
				}
				specimen.Scribble(v)
			}
			if again := slices.Collect(seq); i != len(want) || !alikeRows(again, want) {
				t.Errorf("%s, written over at %d: %d, then %s", short(a), at, i, row(again))
			}
		}
	}
}

// Values that are given share no memory, neither in one way through the sequence nor in two.
func TestP14_1Memory(t *testing.T) {
	for _, a := range []api.Type{rich(), every, arrays(anyObject, 3, -1), objects(objOf(anyArray, []string{"k!"}, anyArray), objOf(anyArray, []string{"k!"}, anyArray))} {
		given := specimen.RoomyType(a)
		seq := sample.Values(given)
		own(t, slices.Concat(slices.Collect(seq), slices.Collect(seq), sample.First(given, 9), sample.First(given, 9)), given)
	}
}

func TestP14_2First(t *testing.T) {
	for _, r := range []struct {
		a    api.Type
		n    int
		want string
	}{
		{nums("3", "5"), math.MinInt, ""}, {nums("3", "5"), -1, ""}, {nums("3", "5"), 0, ""}, {nums("3", "5"), 1, "3"}, {nums("3", "5"), 2, "3 5"}, {nums("3", "5"), 3, "3 5"}, {nums("3", "5"), math.MaxInt, "3 5"},
		{never, -1, ""}, {never, 0, ""}, {never, 1, ""}, {never, math.MaxInt, ""}, {tooHeavy, 9, ""}, {texts("b", "a"), 9, ""}, {every, 4, "null false true 0"}, {arrays(every, 1, -1), 2, "[null] [false]"}, {anyObject, 2, `{} {"x":null}`},
	} {
		if got := sample.First(r.a, r.n); !alikeRows(got, js(r.want)) {
			t.Errorf("First(%s, %d): %s", short(r.a), r.n, row(got))
		}
	}
}

func TestP14_2Some(t *testing.T) {
	for _, r := range []struct {
		a    api.Type
		want string
	}{
		{every, "null"}, {truth, "true"}, {nums("", "7"), "7"}, {anyText, `""`}, {with(texts(long(4096)), nums("8", "9")), "8"}, {arrays(both, 2, -1), "[null,true]"}, {arrays(tooHeavy, 0, -1), "[]"}, {objects(objOf(null, []string{"k!"}, truth)), `{"k":true}`}, {objects(objOf(null, []string{"k!"}, tooHeavy), objOf(never, nil)), "{}"},
		{never, ""}, {tooHeavy, ""}, {arrays(null, 4096, -1), ""}, {arrays(tooHeavy, 1, -1), ""}, {objects(objOf(every, []string{"k!"}, tooHeavy)), ""}, {api.Type{All: true, Null: true}, ""}, {arrays(null, -1, -1), ""},
	} {
		got, ok := sample.Some(r.a)
		want := append(js(r.want), api.Value{})[0]
		if ok != (r.want != "") || !specimen.Alike(got, want) {
			t.Errorf("Some(%s) = %s, %v", short(r.a), row([]api.Value{got}), ok)
		}
	}
}

// What isn't well shaped, at the top or inside, has no samples.
func TestP14_2Wrong(t *testing.T) {
	for _, wrong := range specimen.WrongTypes() {
		answers(t, wrong, nil)
	}
}

// What isn't well shaped when it is handed in has no samples, even if it is later.
func TestP14_1WrongAtFirst(t *testing.T) {
	wrong := texts("b", "a")
	seq := sample.Values(wrong)
	wrong.Texts[0] = ""
	if got := slices.Collect(seq); len(got) > 0 {
		t.Errorf("%v", got)
	}
	right := texts("a", "b")
	seq = sample.Values(right)
	right.Texts[0] = "z"
	if got := slices.Collect(seq); !alikeRows(got, js(`"a" "b"`)) {
		t.Errorf("%v", got)
	}
}

// A loop that panics is left like any other.
func TestP14_1Panic(t *testing.T) {
	seq := sample.Values(rich())
	caught := func() (caught any) {
		defer func() { caught = recover() }()
		for v := range seq {
			if v.Kind == api.Object {
				panic("enough")
			}
		}
		return nil
	}()
	if caught != "enough" || !alikeRows(slices.Collect(seq), samplesOf(rich(), 0)) {
		t.Errorf("caught: %v", caught)
	}
}

// No goroutine is left behind, wherever a row is left.
func TestNoneLeftBehind(t *testing.T) {
	before := runtime.NumGoroutine()
	for n := range 50 {
		sample.First(rich(), n)
		sample.Some(rich())
		sample.Some(specimen.Nest(every, 20))
		for v := range sample.Values(rich()) {
			if v.Kind == api.Array {
				break
			}
		}
	}
	for range 100 {
		if runtime.NumGoroutine() <= before {
			return
		}
		time.Sleep(10 * time.Millisecond)
	}
	t.Errorf("%d goroutines, %d before", runtime.NumGoroutine(), before)
}

// sound holds samples to what follows.
func sound(t *testing.T, a api.Type) {
	t.Helper()
	all := sample.First(a, math.MaxInt)
	for i, v := range all {
		same := func(one api.Value) bool { return value.Same(one, v) }
		if !value.Formed(v) || !specimen.In(v, a) || value.Weight(v) > 4096 || slices.ContainsFunc(all[:i], same) {
			t.Errorf("of %s: %s isn't well shaped, isn't of it, is too heavy, or stands there twice", short(a), row(all[i:i+1]))
		}
	}
	for n := range len(all) {
		if !alikeRows(sample.First(a, n), all[:n]) {
			t.Errorf("of %s: the first %d aren't how all begin", short(a), n)
		}
	}
}

func TestP14_3Sound(t *testing.T) {
	pick := random(143)
	all := append(specimen.WellShapedTypes(pick, 300), rich(), laid, tooHeavy, arrays(tooHeavy, 0, -1))
	for range 60 {
		all = append(all, specimen.CrowdedType(pick, 2))
	}
	for _, a := range all {
		sound(t, a)
	}
	if len(sample.First(never, 9)) > 0 || len(sample.First(shape.Never(), 9)) > 0 {
		t.Error("never has samples")
	}
}

// Of each row of kinds there is one of each kind, and none of another.
func TestP14_3Kinds(t *testing.T) {
	for kinds := range 256 {
		a := shape.OfKinds(uint8(kinds))
		var found uint8
		for v := range sample.Values(a) {
			found |= 1 << v.Kind
		}
		if found != uint8(kinds)&127 {
			t.Errorf("of the kinds %b: %b", kinds, found)
		}
		check(t, a)
		if kinds&127 > 0 {
			check(t, arrays(a, 1, 1))
		}
		check(t, objects(objOf(a, []string{"k"}, a)))
	}
}
