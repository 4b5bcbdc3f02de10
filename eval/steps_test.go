package eval_test

import (
	"iter"
	"slices"
	"testing"

	"hallmark/api"
	"hallmark/eval"
	"hallmark/specimen"
)

// steps is Steps of what isn't refused.
func steps(t *testing.T, n api.Node, v api.Value, fuel int) iter.Seq[api.Result] {
	t.Helper()
	seq, e := eval.Steps(n, v, fuel)
	if e != api.OK {
		t.Fatalf("Steps(%.300s) = %d", written(n), e)
	}
	return seq
}

// many are filters that give several outputs, and end in each way.
func many() []string {
	return []string{".", "empty", "1, 2, 3", `1, 2, error("x")`, "error", "def f: 1, f; f", "range(0; 20)", ".[]?", "(1, 2) as $x | $x, [$x]", `1, ("a" * 99999999), 2`, "def f: f; 7, f", "[range(0; 5)] | ., .[]", "label $l | 1, break $l", "foreach (1, 2, 3) as $x (0; . + $x; [.])", `(1, error("x")) // 2, 3`, "{(\"a\", \"b\"): (1, [2])}"}
}

func TestP23_4Text(t *testing.T) {
	n := parsed(t, `1, 2, error("x")`)
	var got []api.Result
	for r := range steps(t, n, api.Value{}, 100) {
		got = append(got, r)
	}
	if len(got) != 3 || stepText(got[0]) != "1 done, left 95" || stepText(got[1]) != "2 done, left 92" || stepText(got[2]) != ` failed with "x", left 90` {
		t.Errorf("Steps: %v", got)
	}
}

// Steps against Run: the outputs, and the end; behind each output is left what is left, when the run has just so much fuel that it comes up to there.
func TestP23_4AgainstRun(t *testing.T) {
	pick := pickOf(2341)
	check := func(n api.Node, v api.Value, fuel int) {
		var outs []api.Value
		var last api.Result
		for r := range steps(t, n, v, fuel) {
			if len(r.Outs) > 0 {
				outs = append(outs, r.Outs...)
				paid := fuel - r.Left
				whole, _ := eval.Run(n, v, paid)
				short, _ := eval.Run(n, v, paid-1)
				if len(r.Outs) != 1 || r.End != api.Done || !specimen.Alike(r.Fault, api.Value{}) || len(whole.Outs) != len(outs) || paid > 0 && len(short.Outs) != len(outs)-1 {
					t.Errorf("step %d of %s on %s: %v, with just what it costs %d outputs, with one less %d", len(outs), written(n), json(v), r, len(whole.Outs), len(short.Outs))
				}
			}
			last = r
		}
		r, _ := eval.Run(n, v, fuel)
		if got := toldRun(outs, last); got != toldRun(r.Outs, r) || len(last.Outs) > 0 {
			t.Errorf("Steps of %s on %s with %d: %s, Run: %s", written(n), json(v), fuel, got, toldRun(r.Outs, r))
		}
	}
	for _, s := range many() {
		for fuel := range 60 {
			check(parsed(t, s), specimen.JSON("[1,[2]]"), fuel)
		}
	}
	for i := range 1000 {
		check(specimen.ClosedFilter(pick, 1+i%6), specimen.Drawn(pick, 2), 200)
	}
}

// Left at each step, and gone through again, each time from the beginning, also while it is being gone through; what the caller gives up with goes through it.
func TestP23_4LeftAndAgain(t *testing.T) {
	for _, s := range many() {
		if wrong := runs().WrongSteps(parsed(t, s), specimen.JSON("[1,[2]]"), 300); wrong != "" {
			t.Errorf("%s: %s", s, wrong)
		}
	}
}

// No step is worked out ahead of being asked for: what lies behind makes nothing.
func TestP23_4NoFurther(t *testing.T) {
	v := specimen.List(slices.Repeat([]api.Value{specimen.Num("1")}, 1000)...)
	for _, s := range []string{"1, [range(0; 30000)], 2", "1, (def f: f; f)", "1, reduce range(0; 30000) as $x (0; $x)", "range(0; 100000)", ".[] | ., range(0; 1000)", "(1, 2, 3) | ., [range(0; 20000)]", `label $l | 1, (range(0; 50000) | select(. < 0)), 2`, "(0, range(0; 100000)) // 5", "foreach range(0; 50000) as $x (0; $x)", "0, (null, range(0; 50000)) // 5 | .", "[1], [range(0; 30000)]", "try (1, [range(0; 30000)] | .) catch .", "def f(g): g; f(1, [range(0; 30000)])", `"\(1, [range(0; 30000)])"`} {
		seq := steps(t, parsed(t, s), v, api.MaxFuel)
		first := testing.AllocsPerRun(3, func() {
			for range seq {
				break
			}
		})
		whole := testing.AllocsPerRun(1, func() {
			for range seq {
			}
		})
		if first > 200 || whole < 3000 {
			t.Errorf("the first step of %s makes %v pieces of memory, all together %v", s, first, whole)
		}
	}
}
