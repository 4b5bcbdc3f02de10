package specimen

import (
	"math/bits"
	"slices"
	"strconv"

	"hallmark/api"
)

// Roomy is a copy of a value whose lists, the empty ones too, have spare room with marks in it.
func Roomy(v api.Value) api.Value {
	v.Items, v.Keys = roomy(v.Items, Text("spare"), Num("77")), roomy(v.Keys, "spare", "room")
	for i, item := range v.Items {
		v.Items[i] = Roomy(item)
	}
	return v
}

// roomy is a list in memory of its own, with two marks in its spare room.
func roomy[T any](l []T, a, b T) []T {
	out := make([]T, 0, len(l)+2)
	return append(append(out, l...), a, b)[:len(l)]
}

// Untouched says whether a value is still what Roomy made of this one, its spare room too.
func Untouched(v, before api.Value) bool {
	marked := slices.EqualFunc(spare(v.Items), []api.Value{Text("spare"), Num("77")}, Alike) && slices.Equal(spare(v.Keys), []string{"spare", "room"})
	return marked && alikeOutside(v, before) && slices.EqualFunc(v.Items, before.Items, Untouched)
}

// spare is what stands behind a list.
func spare[T any](l []T) []T { return l[len(l):cap(l)] }

// Own says whether a value's memory is its own: no two of its lists share a place, spare room counted, and none of them shares one with these others.
func Own(v api.Value, others ...api.Value) bool { return PlacesOf(v).Apart(PlacesOf(others...)) }

// Places are something to write a mark in, in each place of lists, those of their spare room too.
type Places struct {
	texts []*string
	flags []*bool
}

// PlacesOf are the places of all lists in values, and of lists that a kind has no use for.
func PlacesOf(values ...api.Value) Places {
	var out Places
	for _, v := range values {
		out.inValue(v)
	}
	return out
}

func (p *Places) inValue(v api.Value) {
	items := v.Items[:cap(v.Items)]
	for i := range items {
		p.texts = append(p.texts, &items[i].Text)
	}
	p.inTexts(v.Keys)
	for _, item := range v.Items {
		p.inValue(item)
	}
}

func (p *Places) inTexts(l []string) {
	l = l[:cap(l)]
	for i := range l {
		p.texts = append(p.texts, &l[i])
	}
}

// Apart says whether all these places are different ones, and none of them is one of the others. Marks are written into all, asked for, and taken out again.
func (p Places) Apart(others ...Places) bool {
	var given Places
	for _, o := range others {
		given.texts, given.flags = append(given.texts, o.texts...), append(given.flags, o.flags...)
	}
	return apartTexts(p.texts, given.texts) && apartFlags(p.flags, given.flags)
}

func apartTexts(own, given []*string) bool {
	all := slices.Concat(own, given)
	was := held(all)
	for _, place := range given {
		*place = "given"
	}
	for i, place := range own {
		*place = strconv.Itoa(i)
	}
	right := true
	for i, place := range all {
		right = right && (i < len(own) && *place == strconv.Itoa(i) || i >= len(own) && *place == "given")
	}
	putBack(all, was)
	return right
}

// apartFlags writes the number of each place, from 1 on, a bit a round: of two numbers at one place one isn't there any more in some round. What is given has the number 0.
func apartFlags(own, given []*bool) bool {
	all := slices.Concat(own, given)
	was := held(all)
	right := true
	for round := range bits.Len(uint(len(own))) {
		for _, place := range given {
			*place = false
		}
		for i, place := range own {
			*place = (i+1)>>round&1 == 1
		}
		for i, place := range all {
			right = right && *place == (i < len(own) && (i+1)>>round&1 == 1)
		}
	}
	putBack(all, was)
	return right
}

// held is what stands at places.
func held[T any](places []*T) []T {
	var out []T
	for _, place := range places {
		out = append(out, *place)
	}
	return out
}

// putBack makes it stand there again.
func putBack[T any](places []*T, was []T) {
	for i, place := range places {
		*place = was[i]
	}
}

// Scribble writes into all lists of a value, and into their spare room.
func Scribble(v api.Value) {
	for _, item := range v.Items {
		Scribble(item)
	}
	fill(v.Items, Text("scribbled"))
	fill(v.Keys, "scribbled")
}

// fill writes one thing into all places of a list.
func fill[T any](l []T, with T) {
	l = l[:cap(l)]
	for i := range l {
		l[i] = with
	}
}
