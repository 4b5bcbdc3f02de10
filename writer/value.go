package writer

import (
	"strings"

	"hallmark/api"
	"hallmark/utf"
)

// words are the plain texts of the kinds that have one value, by their numbers.
var words = [...]string{"null", "false", "true"}

// writer writes well shaped values, piece by piece.
type writer struct {
	put  func(piece string)
	laid bool
	step int
	deep int // how many arrays and objects are around what is written now
}

// value writes a value.
func (w *writer) value(v api.Value) {
	next := w.next(v.Kind)
	next(v)
}

// next is what writes a value of this kind.
func (w *writer) next(kind int) func(v api.Value) {
	switch kind {
	case api.Number:
		return w.number
	case api.Text:
		return w.text
	case api.Array:
		return w.array
	case api.Object:
		return w.object
	}
	return w.word
}

func (w *writer) word(v api.Value) { w.put(words[v.Kind]) }

func (w *writer) number(v api.Value) { w.put(v.Num) }

func (w *writer) text(v api.Value) { w.put(utf.Quote(v.Text)) }

func (w *writer) array(v api.Value) {
	w.row("[", "]", v.Items, func(int) string { return "" })
}

func (w *writer) object(v api.Value) {
	w.row("{", "}", v.Items, func(i int) string { return utf.Quote(v.Keys[i]) + w.colon() })
}

// row writes items between brackets, each one behind its name. What stands ahead of an item is put together as one piece; to let the whole text grow piece by piece would copy it each time.
func (w *writer) row(opening, closing string, items []api.Value, name func(i int) string) {
	if len(items) == 0 {
		w.put(opening + closing)
		return
	}
	ahead := opening
	w.deep++
	for i, item := range items {
		ahead += w.line()
		ahead += name(i)
		w.put(ahead)
		w.value(item)
		ahead = ","
	}
	w.deep--
	w.put(w.line() + closing)
}

// line begins a line, where the text is laid in lines.
func (w *writer) line() string {
	if !w.laid {
		return ""
	}
	return "\n" + strings.Repeat(" ", w.deep*w.step)
}

// colon stands between a key and its field.
func (w *writer) colon() string {
	if w.laid {
		return ": "
	}
	return ":"
}
