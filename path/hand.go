package path

import (
	"math"
	"slices"
	"strings"

	"hallmark/api"
	"hallmark/tens"
	"hallmark/value"
)

// hand is the value at hand: the one that a key is asked of.
type hand api.Value

// finder is how the value at hand looks for keys of a kind: it tells the place of one, and whether that is there. It is nil, if no such key fits.
func (h hand) finder(kind int) func(key api.Value) (place int, there bool) {
	switch {
	case h.Kind == api.Object && kind == api.Text:
		return h.field
	case h.Kind == api.Array && kind == api.Number:
		return h.item
	case h.Kind == api.Null:
		return h.nothing
	}
	return nil
}

// field is the place of a name among the keys: where it would stand, if it isn't there.
func (h hand) field(key api.Value) (int, bool) {
	place, there := slices.BinarySearch(h.Keys, key.Text)
	return place, there && place < len(h.Items) // what isn't well shaped may have too few items
}

// item is the place of a number; one that no int holds has a place as far off as an int can tell.
func (h hand) item(key api.Value) (int, bool) {
	place, small := tens.Small(key.Num)
	below := strings.HasPrefix(key.Num, "-")
	switch {
	case small && below:
		place += len(h.Items)
	case below:
		place = math.MinInt
	case !small:
		place = math.MaxInt
	}
	return place, 0 <= place && place < len(h.Items)
}

// nothing is of Null, which fits every key and has none.
func (hand) nothing(api.Value) (int, bool) { return 0, false }

// isKey says whether a value may stand in a way.
func isKey(v api.Value) bool {
	return (v.Kind == api.Text || v.Kind == api.Number) && value.Formed(v)
}

// allKeys says whether a list is a way.
func allKeys(p []api.Value) bool {
	for _, key := range p {
		if !isKey(key) {
			return false
		}
	}
	return true
}

// trail is where a way has led: to which value and, if it is there, by which places.
type trail struct {
	to    api.Value
	by    []int
	there bool
}

// followed is where a way leads; what it leads to isn't copied.
func followed(v api.Value, p []api.Value) (trail, api.Errno) {
	led := trail{to: v, there: true}
	for _, key := range p {
		find := hand(led.to).finder(key.Kind)
		if find == nil {
			return trail{}, api.ErrStep
		}
		place, there := find(key)
		if !there { // one has come to Null, which every key leaves at Null
			return trail{}, api.OK
		}
		led.to, led.by = led.to.Items[place], append(led.by, place)
	}
	return led, api.OK
}
