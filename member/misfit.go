package member

import (
	"errors"

	"hallmark/api"
)

// misfit is why a value isn't of a type, told where it lies.
type misfit struct{ reason int }

func (m *misfit) Error() string { return "the value isn't of the type" }

// within is a misfit seen from around it: the step in, and what is wrong there.
type within struct {
	step  api.Value
	inner error
}

func (w *within) Error() string { return w.inner.Error() }

func (w *within) Unwrap() error { return w.inner }

// here is what is wrong with a value itself.
func here(reason int) error { return &misfit{reason} }

// atField is what is wrong under an object's name.
func atField(name string, inner error) error {
	return &within{api.Value{Kind: api.Text, Text: name}, inner}
}

// atItem is what is wrong with an array's item, whose place is told in tens.
func atItem(place string, inner error) error {
	return &within{api.Value{Kind: api.Number, Num: place}, inner}
}

// told is the way to a misfit and its reason; where nothing is wrong, the empty way and Fits.
func told(wrong error) (p []api.Value, reason int) {
	var m *misfit
	if !errors.As(wrong, &m) {
		return nil, Fits
	}
	var around *within
	for errors.As(wrong, &around) {
		p = append(p, around.step)
		wrong = around.inner
	}
	return p, m.reason
}
