package specimen_test

import (
	"iter"
	"testing"

	"hallmark/api"
	"hallmark/specimen"
	"hallmark/value"
)

// twice is a run that gives its input twice, unless the fuel is below 0.
func twice() specimen.Runs {
	run := func(_ api.Node, v api.Value, fuel int) (api.Result, api.Errno) {
		if fuel < 0 {
			return api.Result{}, api.ErrRange
		}
		return api.Result{Outs: []api.Value{value.Twin(v), value.Twin(v)}, Left: fuel}, api.OK
	}
	steps := func(n api.Node, v api.Value, fuel int) (iter.Seq[api.Result], api.Errno) {
		if fuel < 0 {
			return func(func(api.Result) bool) {}, api.ErrRange
		}
		v = value.Twin(v)
		return func(yield func(api.Result) bool) {
			for range 2 {
				if !yield(api.Result{Outs: []api.Value{value.Twin(v)}, Left: fuel}) {
					return
				}
			}
			yield(api.Result{Left: fuel})
		}, api.OK
	}
	return specimen.Runs{Run: run, Steps: steps}
}

// running are runs that differ from twice in Run, by what it makes of an answer.
func running(wrong func(n api.Node, v api.Value, r *api.Result, e *api.Errno)) specimen.Runs {
	out := twice()
	out.Run = func(n api.Node, v api.Value, fuel int) (api.Result, api.Errno) {
		r, e := twice().Run(n, v, fuel)
		wrong(n, v, &r, &e)
		return r, e
	}
	return out
}

// stepping are runs that differ in Steps, by what it makes of a sequence.
func stepping(wrong func(n api.Node, v api.Value, seq iter.Seq[api.Result]) (iter.Seq[api.Result], api.Errno)) specimen.Runs {
	out := twice()
	out.Steps = func(n api.Node, v api.Value, fuel int) (iter.Seq[api.Result], api.Errno) {
		seq, e := twice().Steps(n, v, fuel)
		other, add := wrong(n, v, seq)
		return other, e + add
	}
	return out
}

func TestRunsTold(t *testing.T) {
	r, n, v := twice(), specimen.Part(api.Self), specimen.JSON("[1]")
	for want, got := range map[string]string{
		"[1] [1] done, left 5":                                r.Told(n, v, 5),
		" done, left 0 error 2":                               r.Told(n, v, -1),
		"[1] done, left 5; [1] done, left 5;  done, left 5; ": r.ToldSteps(n, v, 5),
		" error 2": r.ToldSteps(n, v, -1),
	} {
		if got != want {
			t.Errorf("it is %q, want %q", got, want)
		}
	}
}

func TestRunsWrongRefusal(t *testing.T) {
	n, v := specimen.Part(api.Self), specimen.JSON("[1]")
	if wrong := twice().WrongRefusal(n, v, -1, api.ErrRange); wrong != "" {
		t.Error(wrong)
	}
	if twice().WrongRefusal(n, v, -1, api.ErrShape) == "" || twice().WrongRefusal(n, v, 1, api.ErrShape) == "" {
		t.Error("another error isn't seen, or none")
	}
	for name, r := range map[string]specimen.Runs{
		"another error of Run": running(func(_ api.Node, _ api.Value, _ *api.Result, e *api.Errno) { *e++ }),
		"an output":            running(func(_ api.Node, v api.Value, r *api.Result, _ *api.Errno) { r.Outs = []api.Value{v} }),
		"an end":               running(func(_ api.Node, _ api.Value, r *api.Result, _ *api.Errno) { r.End++ }),
		"a fault":              running(func(_ api.Node, v api.Value, r *api.Result, _ *api.Errno) { r.Fault = v }),
		"something left":       running(func(_ api.Node, _ api.Value, r *api.Result, _ *api.Errno) { r.Left++ }),
		"another error of Steps": stepping(func(_ api.Node, _ api.Value, seq iter.Seq[api.Result]) (iter.Seq[api.Result], api.Errno) {
			return seq, 1
		}),
		"no sequence": stepping(func(_ api.Node, _ api.Value, seq iter.Seq[api.Result]) (iter.Seq[api.Result], api.Errno) {
			return nil, 0
		}),
		"a step": stepping(func(_ api.Node, _ api.Value, seq iter.Seq[api.Result]) (iter.Seq[api.Result], api.Errno) {
			return func(yield func(api.Result) bool) { yield(api.Result{}) }, 0
		}),
	} {
		if r.WrongRefusal(n, v, -1, api.ErrRange) == "" {
			t.Errorf("%s beside the error isn't seen", name)
		}
	}
}

func TestRunsWrongMemory(t *testing.T) {
	n, v := specimen.Part(api.List, specimen.Part(api.Self)), specimen.JSON(`[1,{"a":[]}]`)
	if wrong := twice().WrongMemory(n, v, 9); wrong != "" {
		t.Error(wrong)
	}
	var kept api.Value
	for name, r := range map[string]specimen.Runs{
		"the input handed on":      running(func(_ api.Node, v api.Value, r *api.Result, _ *api.Errno) { r.Outs[1] = v }),
		"a part of it":             running(func(_ api.Node, v api.Value, r *api.Result, _ *api.Errno) { r.Outs[1] = v.Items[1] }),
		"one output twice":         running(func(_ api.Node, _ api.Value, r *api.Result, _ *api.Errno) { r.Outs[1] = r.Outs[0] }),
		"a fault of an output's":   running(func(_ api.Node, _ api.Value, r *api.Result, _ *api.Errno) { r.Fault = r.Outs[0] }),
		"a changed input":          running(func(_ api.Node, v api.Value, _ *api.Result, _ *api.Errno) { v.Items[0].Num = "2" }),
		"a changed filter":         running(func(n api.Node, _ api.Value, _ *api.Result, _ *api.Errno) { n.Kids[0].At = 9 }),
		"the room behind it":       running(func(_ api.Node, v api.Value, _ *api.Result, _ *api.Errno) { _ = append(v.Items, v) }),
		"the room behind its kids": running(func(n api.Node, _ api.Value, _ *api.Result, _ *api.Errno) { _ = append(n.Kids, n) }),
		"one kept for ever": running(func(_ api.Node, _ api.Value, r *api.Result, _ *api.Errno) {
			if kept.Kind == 0 {
				kept = r.Outs[0]
			}
			r.Outs[0] = kept
		}),
		"steps of the input": stepping(func(_ api.Node, v api.Value, _ iter.Seq[api.Result]) (iter.Seq[api.Result], api.Errno) {
			return func(yield func(api.Result) bool) { yield(api.Result{Outs: []api.Value{v}}) }, 0
		}),
		"steps of what the input has become": stepping(func(_ api.Node, v api.Value, _ iter.Seq[api.Result]) (iter.Seq[api.Result], api.Errno) {
			return func(yield func(api.Result) bool) {
				_ = yield(api.Result{}) && yield(api.Result{Outs: []api.Value{value.Twin(v)}})
			}, 0
		}),
		"steps of what the filter has become": stepping(func(n api.Node, _ api.Value, seq iter.Seq[api.Result]) (iter.Seq[api.Result], api.Errno) {
			return func(yield func(api.Result) bool) { _ = yield(api.Result{}) && yield(api.Result{Left: n.Kids[0].Op}) }, 0
		}),
		"steps in one list": stepping(func(_ api.Node, _ api.Value, seq iter.Seq[api.Result]) (iter.Seq[api.Result], api.Errno) {
			list := []api.Value{specimen.Num("1")}
			return func(yield func(api.Result) bool) { _ = yield(api.Result{Outs: list}) && yield(api.Result{Outs: list}) }, 0
		}),
		"steps that change the input": stepping(func(_ api.Node, v api.Value, seq iter.Seq[api.Result]) (iter.Seq[api.Result], api.Errno) {
			return func(yield func(api.Result) bool) { v.Items[0].Num += "0"; seq(yield) }, 0
		}),
	} {
		if r.WrongMemory(n, v, 9) == "" {
			t.Errorf("%s isn't seen", name)
		}
	}
}

func TestRunsWrongSteps(t *testing.T) {
	n, v := specimen.Part(api.Self), specimen.JSON("[1]")
	if wrong := twice().WrongSteps(n, v, 9); wrong != "" {
		t.Error(wrong)
	}
	for name, wrong := range map[string]func(seq iter.Seq[api.Result]) iter.Seq[api.Result]{
		"once alone": func(seq iter.Seq[api.Result]) iter.Seq[api.Result] {
			next, _ := iter.Pull(seq)
			return func(yield func(api.Result) bool) {
				for r, ok := next(); ok && yield(r); r, ok = next() {
				}
			}
		},
		"otherwise each time": func(seq iter.Seq[api.Result]) iter.Seq[api.Result] {
			often := 0
			return func(yield func(api.Result) bool) { often++; yield(api.Result{Left: often}) }
		},
		"otherwise while it is gone through": func(seq iter.Seq[api.Result]) iter.Seq[api.Result] {
			within := 0
			return func(yield func(api.Result) bool) {
				within++
				defer func() { within-- }()
				yield(api.Result{Left: within})
			}
		},
		"keeping a panic": func(seq iter.Seq[api.Result]) iter.Seq[api.Result] {
			return func(yield func(api.Result) bool) {
				defer func() { recover() }()
				seq(yield)
			}
		},
		"another panic": func(seq iter.Seq[api.Result]) iter.Seq[api.Result] {
			return func(yield func(api.Result) bool) {
				defer func() {
					if recover() != nil {
						panic("another")
					}
				}()
				seq(yield)
			}
		},
	} {
		r := stepping(func(_ api.Node, _ api.Value, seq iter.Seq[api.Result]) (iter.Seq[api.Result], api.Errno) {
			return wrong(seq), 0
		})
		if r.WrongSteps(n, v, 9) == "" {
			t.Errorf("%s isn't seen", name)
		}
	}
}
