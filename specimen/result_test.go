package specimen_test

import (
	"testing"

	"hallmark/api"
	"hallmark/specimen"
)

// result is one with lists of all kinds.
func result() api.Result {
	return api.Result{Outs: []api.Value{specimen.Num("1"), specimen.JSON(`{"a":[2]}`)}, End: api.Failed, Fault: specimen.JSON(`["x"]`), Left: 7}
}

func TestToldResult(t *testing.T) {
	for want, r := range map[string]api.Result{
		`1 {"a":[2]} failed with ["x"], left 7`: result(),
		" done, left 3":                         {Left: 3},
		"null spent, left 0":                    {Outs: []api.Value{{}}, End: api.Spent},
		" 5 beside a fault, left -1":            {End: 5, Fault: specimen.Text(""), Left: -1},
		"no value done, left 0":                 {Outs: []api.Value{{Kind: 9}}},
	} {
		if got := specimen.ToldResult(r); got != want {
			t.Errorf("it is %q, want %q", got, want)
		}
	}
	if got := specimen.ToldEnd(result()); got != `failed with ["x"], left 7` {
		t.Errorf("its end is %q", got)
	}
}

func TestPlacesOfResults(t *testing.T) {
	a, b := result(), result()
	if !specimen.PlacesOfResults(a).Apart() || !specimen.PlacesOfResults(a).Apart(specimen.PlacesOfResults(b)) || specimen.PlacesOfResults(a, a).Apart() {
		t.Error("two results that share nothing, or one twice")
	}
	for i, share := range []api.Result{{Outs: a.Outs}, {Outs: a.Outs[1:]}, {Fault: a.Fault}, {Fault: a.Outs[1].Items[0]}, {Outs: []api.Value{a.Outs[1]}}} {
		if specimen.PlacesOfResults(share, b).Apart(specimen.PlacesOfResults(a)) {
			t.Errorf("what result %d shares isn't seen", i)
		}
	}
}

func TestScribbleResult(t *testing.T) {
	r := result()
	inner := r.Outs[1]
	r.Outs = r.Outs[:1]
	specimen.ScribbleResult(r)
	if all := r.Outs[:2]; all[0].Text != "scribbled" || all[1].Text != "scribbled" || r.Fault.Items[0].Text != "scribbled" || inner.Items[0].Items[0].Num != "2" {
		t.Errorf("%v, %v", r, inner)
	}
}
