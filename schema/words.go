package schema

import (
	"slices"

	"hallmark/api"
	"hallmark/tens"
	"hallmark/value"
)

const (
	everyKind uint8 = 1<<(api.Object+1) - 1
	maxCount        = 1<<31 - 1 // of items, as minItems and maxItems may say
)

// word is a key that may stand in a document, and what takes in the value beside it.
type word struct {
	key  string
	take func(*part, api.Value)
}

// form is a form of the objects that are schema documents: the words that may stand there beside remarks, and what builds the type of what they have said, if a type can say it.
type form struct {
	words []word
	build func(*part) (built, bool)
}

func formOf(v api.Value) form {
	switch {
	case has(v, "anyOf"):
		return form{[]word{{"anyOf", (*part).takeAnyOf}}, (*part).buildAnyOf}
	case has(v, "enum"):
		return form{[]word{{"enum", (*part).takeEnum}}, (*part).buildEnum}
	}
	return form{table(), (*part).buildPlain}
}

// has says whether an object has a key.
func has(v api.Value, key string) bool {
	_, found := slices.BinarySearch(v.Keys, key)
	return found
}

// table is the words of plain documents.
func table() []word {
	return []word{
		{"type", (*part).takeType},
		{"minimum", (*part).takeMinimum},
		{"maximum", (*part).takeMaximum},
		{"minItems", (*part).takeMinItems},
		{"maxItems", (*part).takeMaxItems},
		{"items", (*part).takeItems},
		{"properties", (*part).takeProperties},
		{"required", (*part).takeRequired},
		{"additionalProperties", (*part).takeAdditional},
	}
}

func isRemark(key string) bool {
	return key == "title" || key == "description" || key == "$comment"
}

// part is an object that is to be a schema document: what its words have said so far.
type part struct {
	*reading
	said   bool  // whether there is a word that is no remark
	kinds  uint8 // as a row of bits
	span   api.Span
	item   built
	least  int // items
	most   int // items; -1 is no bound
	names  []string
	fields []built  // beside names
	asked  []string // names of fields that must be there, rising
	rest   built
	values []api.Value // of enum
	either []built     // of anyOf
}

// newPart is a part of which nothing is said: what is missing allows all.
func newPart(r *reading) *part {
	return &part{reading: r, kinds: everyKind, item: every(), most: -1, rest: every()}
}

// look takes in what stands beside a key, which must be one of some words or a remark.
func (p *part) look(words []word, key string, v api.Value) {
	at := slices.IndexFunc(words, func(w word) bool { return w.key == key })
	switch {
	case at >= 0:
		p.said = true
		words[at].take(p, v)
	case isRemark(key):
		p.need(v.Kind == api.Text)
	default:
		p.giveUp(api.ErrKeyword)
	}
}

func (p *part) takeAnyOf(v api.Value) {
	p.need(v.Kind == api.Array && len(v.Items) > 0)
	for i, item := range v.Items {
		p.either = append(p.either, p.inner(place(i), item))
	}
}

func (p *part) takeEnum(v api.Value) {
	p.need(v.Kind == api.Array && len(v.Items) > 0)
	for i, item := range v.Items {
		if item.Kind == api.Array || item.Kind == api.Object {
			p.giveUp(api.ErrGiven, place(i))
		}
	}
	p.values = v.Items
}

func (p *part) takeType(v api.Value) {
	if v.Kind == api.Text {
		p.kinds = kindsOf(v.Text)
		p.need(p.kinds != 0)
		return
	}
	p.need(v.Kind == api.Array && len(v.Items) > 0)
	p.kinds = 0
	for _, name := range p.texts(v, func(name string) bool { return kindsOf(name) != 0 }) {
		p.kinds |= kindsOf(name)
	}
}

// kindsOf is the row of the kinds that a name of type says; 0, if it is none.
func kindsOf(name string) uint8 {
	if name == "integer" {
		name = value.Name(api.Number)
	}
	var row uint8
	for kind := api.Null; kind <= api.Object; kind++ {
		if value.Name(kind) == name {
			row |= 1 << kind
		}
	}
	return row
}

// texts is the elements of an array, which must be texts that are right, none of them twice.
func (p *part) texts(list api.Value, right func(string) bool) []string {
	var out []string
	seen := map[string]int{}
	for i, item := range list.Items {
		_, twice := seen[item.Text]
		if item.Kind != api.Text || twice || !right(item.Text) {
			p.giveUp(api.ErrGiven, place(i))
		}
		seen[item.Text] = i
		out = append(out, item.Text)
	}
	return out
}

func (p *part) takeMinimum(v api.Value) {
	p.need(v.Kind == api.Number)
	p.span.Low = v.Num
}

func (p *part) takeMaximum(v api.Value) {
	p.need(v.Kind == api.Number)
	p.span.High = v.Num
}

func (p *part) takeMinItems(v api.Value) { p.least = p.count(v) }

func (p *part) takeMaxItems(v api.Value) { p.most = p.count(v) }

// count is a number of items.
func (p *part) count(v api.Value) int {
	n, small := tens.Small(v.Num) // of what is no number, too, there is none
	p.need(small && 0 <= n && n <= maxCount)
	return n
}

func (p *part) takeItems(v api.Value) { p.item = p.document(v) }

func (p *part) takeAdditional(v api.Value) { p.rest = p.document(v) }

func (p *part) takeProperties(v api.Value) {
	p.need(v.Kind == api.Object)
	p.names = v.Keys
	for i, key := range v.Keys {
		p.fields = append(p.fields, p.inner(text(key), v.Items[i]))
	}
}

func (p *part) takeRequired(v api.Value) {
	p.need(v.Kind == api.Array)
	p.asked = p.texts(v, func(string) bool { return true })
	slices.Sort(p.asked)
}
