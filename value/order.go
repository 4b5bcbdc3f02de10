package value

import (
	"cmp"
	"slices"

	"hallmark/api"
	"hallmark/tens"
)

// thing is a value that is held against another one of its kind.
type thing api.Value

// Cmp puts two values in order.
func Cmp(a, b api.Value) int {
	if a.Kind != b.Kind {
		return cmp.Compare(a.Kind, b.Kind)
	}
	ways := deciders()
	if a.Kind < 0 || a.Kind >= len(ways) {
		return 0
	}
	return ways[a.Kind](thing(a), thing(b))
}

// Same says whether two values are the same.
func Same(a, b api.Value) bool { return Cmp(a, b) == 0 }

// deciders are what decides between two values of one kind, by the kind's number.
func deciders() [api.Object + 1]func(a, b thing) int {
	return [...]func(a, b thing) int{
		api.Null:   thing.alike,
		api.False:  thing.alike,
		api.True:   thing.alike,
		api.Number: thing.byWorth,
		api.Text:   thing.byText,
		api.Array:  thing.byItems,
		api.Object: thing.byFields,
	}
}

// alike is of the kinds that have one value each.
func (thing) alike(thing) int { return 0 }

func (a thing) byWorth(b thing) int {
	side, _ := tens.Cmp(a.Num, b.Num)
	return side
}

func (a thing) byText(b thing) int { return cmp.Compare(a.Text, b.Text) }

func (a thing) byItems(b thing) int { return slices.CompareFunc(a.Items, b.Items, Cmp) }

// byFields looks at all keys ahead of all values: so {"a":2} stands ahead of {"b":1}.
func (a thing) byFields(b thing) int {
	if side := slices.Compare(a.Keys, b.Keys); side != 0 {
		return side
	}
	return a.byItems(b)
}
