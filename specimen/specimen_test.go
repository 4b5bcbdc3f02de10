package specimen_test

import (
	"fmt"
	"slices"
	"testing"

	"hallmark/api"
	"hallmark/specimen"
)

func made() api.Value {
	return specimen.Roomy(specimen.List(specimen.Num("1"), specimen.Object([]string{"a", "b"}, specimen.List(), specimen.Text("x"))))
}

// What is written anywhere into a roomy value is seen.
func TestUntouched(t *testing.T) {
	if !specimen.Untouched(made(), made()) {
		t.Fatal("touched by nobody")
	}
	for i, write := range []func(v api.Value){
		func(v api.Value) { v.Items[0].Num = "2" },
		func(v api.Value) { v.Items[1].Kind = api.Array },
		func(v api.Value) { v.Items[1].Keys[1] = "c" },
		func(v api.Value) { v.Items[1].Items[1].Text = "y" },
		func(v api.Value) { v.Items[1].Items[0].Items = []api.Value{{}} },
		func(v api.Value) { _ = append(v.Items, api.Value{}) },
		func(v api.Value) { _ = append(v.Items, specimen.Text("spare"), api.Value{}) },
		func(v api.Value) { _ = append(v.Keys, "") },
		func(v api.Value) { _ = append(v.Items[1].Keys, "spare", "") },
		func(v api.Value) { _ = append(v.Items[1].Items[0].Items, api.Value{}) },
		func(v api.Value) { _ = append(v.Items[0].Keys, "") },
	} {
		v := made()
		write(v)
		if specimen.Untouched(v, made()) {
			t.Errorf("what write %d does isn't seen", i)
		}
	}
}

// What shares a place with another list, or within itself, isn't its own.
func TestOwn(t *testing.T) {
	v, other := made(), made()
	if !specimen.Own(v) || !specimen.Own(v, other) || specimen.Own(v, other, v) {
		t.Fatal("two values that share nothing")
	}
	spare := specimen.List(other.Items[:0]...)
	inside := specimen.List(v.Items[1])
	behind := specimen.Object(v.Items[1].Keys[1:1], v)
	for i, w := range []api.Value{spare, inside, behind} {
		if specimen.Own(w, v, other) {
			t.Errorf("what value %d shares isn't seen", i)
		}
	}
	if specimen.Own(specimen.List(v, v)) || specimen.Own(behind) {
		t.Error("what a value shares within itself isn't seen")
	}
	if !specimen.Untouched(v, made()) || !specimen.Untouched(other, made()) {
		t.Errorf("changed: %v, %v", v, other)
	}
}

func TestScribble(t *testing.T) {
	v := made()
	inner := v.Items[1]
	specimen.Scribble(v)
	if v.Items[0].Text != "scribbled" || v.Items[:cap(v.Items)][3].Text != "scribbled" || inner.Keys[1] != "scribbled" || inner.Items[0].Text != "scribbled" {
		t.Errorf("%v, %v", v, inner)
	}
}

// The same choices make the same value.
func TestPicks(t *testing.T) {
	data := []byte("\x06\x04\x05\x03\x06\x02\x01\x06\x04\x03\x03abc")
	a, b := specimen.Drawn(specimen.Picks(data), 4), specimen.Drawn(specimen.Picks(data), 4)
	if a.Kind != api.Object || len(a.Items) == 0 || !specimen.Alike(a, b) {
		t.Errorf("%v, and %v", a, b)
	}
}

// Each order is given once.
func TestOrders(t *testing.T) {
	for many, want := range []int{1, 1, 2, 6, 24, 120} {
		l := []int{1, 2, 3, 4, 5}[:many]
		seen := map[string]bool{}
		for order := range specimen.Orders(l) {
			seen[fmt.Sprint(order)] = true
			slices.Sort(order)
			if !slices.Equal(order, l) {
				t.Errorf("an order of %v: %v", l, order)
			}
		}
		if len(seen) != want {
			t.Errorf("%d orders of %v", len(seen), l)
		}
	}
	for order := range specimen.Orders([]string{"a", "b", "c"}) {
		if !slices.Equal(order, []string{"a", "b", "c"}) {
			t.Errorf("first %q", order)
		}
		break
	}
}

func TestReadOrDrawn(t *testing.T) {
	pick := specimen.Picks([]byte{2})
	if read := specimen.ReadOrDrawn(`{"a":[]}`, pick); !specimen.Alike(read, specimen.Object([]string{"a"}, specimen.List())) {
		t.Errorf("what is read is %v", read)
	}
	for _, s := range []string{"", "[", "1 2", "x"} {
		if drawn := specimen.ReadOrDrawn(s, specimen.Picks([]byte{2})); !specimen.Alike(drawn, specimen.Kind(api.True)) {
			t.Errorf("where %q is read, what is drawn is %v", s, drawn)
		}
	}
}
