package specimen

import (
	"hallmark/api"
	"hallmark/reader"
	"hallmark/value"
	"hallmark/writer"
)

// Answer is what a call answers that makes one value of others: the value, or a fault, or neither.
type Answer struct {
	V, Fault api.Value
	Ok       bool
}

// Answered is an answer in one.
func Answered(v, fault api.Value, ok bool) Answer { return Answer{v, fault, ok} }

// Is is the answer that is a value.
func Is(v api.Value) Answer { return Answer{V: v, Ok: true} }

// Fails is the answer that is a fault.
func Fails(word string) Answer { return Answer{Fault: Text(word)} }

// Truth is the answer that is True or False.
func Truth(holds bool) Answer {
	if holds {
		return Is(Kind(api.True))
	}
	return Is(Kind(api.False))
}

// Alike says whether two answers are so.
func (a Answer) Alike(b Answer) bool {
	return a.Ok == b.Ok && Alike(a.V, b.V) && Alike(a.Fault, b.Fault)
}

// Told is an answer as a text: the value, the fault behind a !, or neither.
func (a Answer) Told() string {
	plain, e := writer.Text(a.V)
	switch {
	case a.Ok && e == api.OK && Alike(a.Fault, api.Value{}):
		return plain
	case !a.Ok && Alike(a.V, api.Value{}) && a.Fault.Kind == api.Text && value.Formed(a.Fault):
		return "!" + a.Fault.Text
	case a.Alike(Answer{}):
		return "neither"
	}
	return "a value beside a fault"
}

// Call is a call of values, with what the words say of it.
type Call struct {
	Do, Want func(l []api.Value) Answer
}

// Wrong tells how a call fails the words, or the rules of memory: what is handed in stays as it was, its spare room too, and two answers share nothing with it, with one another or within themselves. It is empty, if nothing is wrong.
func (c Call) Wrong(l ...api.Value) string {
	given := Roomy(List(l...))
	want, got := c.Want(l), c.Do(given.Items)
	if !got.Alike(want) {
		return "it is " + got.Told() + ", want " + want.Told()
	}
	if !Untouched(given, List(l...)) {
		return "it changed what it was given"
	}
	again := c.Do(given.Items)
	if !PlacesOf(got.V, got.Fault, again.V, again.Fault).Apart(PlacesOf(given)) {
		return "the memory of " + got.Told() + " isn't its own"
	}
	Scribble(got.V)
	if !again.Alike(want) || !c.Do(given.Items).Alike(want) || !Untouched(given, List(l...)) {
		return "what is written into an answer is seen elsewhere"
	}
	return ""
}

// JSON is the value of a text of JSON.
func JSON(s string) api.Value {
	v, e, _ := reader.One(s)
	if e != api.OK {
		panic("no JSON: " + s)
	}
	return v
}
