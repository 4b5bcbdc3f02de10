package specimen_test

import (
	"testing"

	"hallmark/api"
	"hallmark/specimen"
	"hallmark/value"
)

func TestAnswers(t *testing.T) {
	one, two := specimen.Num("1"), specimen.Num("2")
	all := []specimen.Answer{{}, specimen.Is(one), specimen.Is(two), specimen.Is(api.Value{}), specimen.Fails("add"), specimen.Fails("sub"), specimen.Truth(true), specimen.Truth(false), {V: one}, {Fault: two, Ok: true}, {V: one, Fault: specimen.Text("add")}}
	told := []string{"neither", "1", "2", "null", "!add", "!sub", "true", "false", "a value beside a fault", "a value beside a fault", "a value beside a fault"}
	for i, a := range all {
		if a.Told() != told[i] {
			t.Errorf("answer %d is told as %s", i, a.Told())
		}
		for j, b := range all {
			if a.Alike(b) != (i == j) {
				t.Errorf("answers %d and %d", i, j)
			}
		}
	}
}

// What a call does wrong is told, whatever it is.
func TestWrong(t *testing.T) {
	kept := specimen.List()
	twin := func(l []api.Value) specimen.Answer { return specimen.Is(value.Twin(l[0])) }
	for name, do := range map[string]func(l []api.Value) specimen.Answer{
		"another value":  func(l []api.Value) specimen.Answer { return specimen.Is(specimen.List()) },
		"a fault":        func(l []api.Value) specimen.Answer { return specimen.Fails("add") },
		"neither":        func(l []api.Value) specimen.Answer { return specimen.Answer{} },
		"shared":         func(l []api.Value) specimen.Answer { return specimen.Is(l[0]) },
		"shared inside":  func(l []api.Value) specimen.Answer { return specimen.Is(specimen.List(l[0].Items...)) },
		"list written":   func(l []api.Value) specimen.Answer { v := twin(l); l[1] = api.Value{Kind: 7}; return v },
		"room written":   func(l []api.Value) specimen.Answer { v := twin(l); _ = append(l, api.Value{}); return v },
		"inside written": func(l []api.Value) specimen.Answer { v := twin(l); l[0].Items[0] = api.Value{}; return v },
		"kept": func(l []api.Value) specimen.Answer {
			if len(kept.Items) == 0 {
				kept = value.Twin(l[0])
			}
			return specimen.Is(kept)
		},
	} {
		if (specimen.Call{Do: do, Want: twin}).Wrong(specimen.JSON(`[[1],{"a":2}]`), specimen.Num("1")) == "" {
			t.Errorf("%s: nothing is told", name)
		}
	}
	if wrong := (specimen.Call{Do: twin, Want: twin}).Wrong(specimen.JSON(`[[1],{"a":2}]`), specimen.Num("1")); wrong != "" {
		t.Error(wrong)
	}
}

func TestOfEachKind(t *testing.T) {
	for kind, of := range specimen.OfEachKind() {
		for _, v := range of {
			if v.Kind != kind || !value.Formed(v) {
				t.Errorf("%v of the kind %d", v, kind)
			}
		}
	}
	pick := specimen.Picks([]byte("abcdefghijklmnopqrstuvwxyz"))
	for kind, of := range specimen.ByKind(pick, 20) {
		for _, v := range of {
			if v.Kind != kind || !value.Formed(v) {
				t.Errorf("%v drawn of the kind %d", v, kind)
			}
		}
	}
}
