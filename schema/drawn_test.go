package schema_test

import (
	"slices"

	"hallmark/api"
	"hallmark/specimen"
)

// drawing draws documents; of so many parts one is at fault (none, if 0).
type drawing struct {
	pick  specimen.Source
	wrong int
}

// spoilt says whether the part at hand is to be at fault.
func (d drawing) spoilt() bool { return d.wrong > 0 && d.pick(d.wrong) == 0 }

// doc is a document, at most so deep.
func (d drawing) doc(deep int) api.Value {
	if d.spoilt() {
		return specimen.Drawn(d.pick, 2)
	}
	form := d.pick(10)
	switch {
	case form == 0:
		return specimen.Kind(api.True)
	case form == 1:
		return specimen.Kind(api.False)
	case form < 4:
		return object(d.remarked(map[string]api.Value{"enum": d.enum()}))
	case form < 6 && deep > 0:
		return object(d.remarked(map[string]api.Value{"anyOf": d.docs(deep)}))
	}
	return object(d.remarked(d.plain(deep)))
}

// remarked are fields with some remarks, and now and then with a key or value that may not be.
func (d drawing) remarked(fields map[string]api.Value) map[string]api.Value {
	for _, key := range []string{"title", "description", "$comment"} {
		if d.pick(6) == 0 {
			fields[key] = specimen.Text("about")
		}
	}
	if d.spoilt() {
		keys := []string{"title", "a", "z", "enum", "anyOf", "type", "items", "maxItems", "minimum", "required", "properties", "additionalProperties"}
		fields[keys[d.pick(len(keys))]] = specimen.Drawn(d.pick, 2)
	}
	return fields
}

// few are so many of some things, at least one, none twice.
func few[T any](pick specimen.Source, of []T) []T {
	of = slices.Clone(of)
	for i := range of {
		k := pick(i + 1)
		of[i], of[k] = of[k], of[i]
	}
	return of[:1+min(pick(len(of)), pick(len(of)))]
}

func (d drawing) enum() api.Value {
	all := []api.Value{specimen.Kind(api.Null), specimen.Kind(api.False), specimen.Kind(api.True)}
	for _, s := range []string{"a", "b", "c", "", "é"} {
		all = append(all, specimen.Text(s))
	}
	from := d.pick(4)
	for i := range d.pick(8) {
		all = append(all, index(from+i))
	}
	out := few(d.pick, all)
	if d.spoilt() {
		out = append(out, specimen.Drawn(d.pick, 2))
	}
	return specimen.List(append(out, out[0])...)
}

func (d drawing) docs(deep int) api.Value {
	out := specimen.List()
	for range 1 + d.pick(4) {
		out.Items = append(out.Items, d.doc(deep-1))
	}
	return out
}

// number is one of few, so that bounds often touch.
func (d drawing) number() api.Value {
	all := append(specimen.Numbers(), "3", "4", "5", "-2", "0", "1", "2", "3")
	return specimen.Num(all[d.pick(len(all))])
}

// plain are words of the table.
func (d drawing) plain(deep int) map[string]api.Value {
	out := map[string]api.Value{}
	if d.pick(4) > 0 {
		out["type"] = d.kinds()
	}
	for _, key := range []string{"minimum", "maximum"} {
		if d.pick(4) == 0 {
			out[key] = d.number()
		}
	}
	for _, key := range []string{"minItems", "maxItems"} {
		if d.pick(4) == 0 {
			out[key] = index(d.pick(4))
		}
	}
	if d.pick(3) == 0 {
		out["required"] = d.names()
	}
	if deep == 0 {
		return out
	}
	for _, key := range []string{"items", "additionalProperties"} {
		if d.pick(3) == 0 {
			out[key] = d.doc(deep - 1)
		}
	}
	if d.pick(3) == 0 {
		fields := map[string]api.Value{}
		for range d.pick(4) {
			fields[[...]string{"a", "b", "c", "type"}[d.pick(4)]] = d.doc(deep - 1)
		}
		out["properties"] = object(fields)
	}
	return out
}

func (d drawing) kinds() api.Value {
	names := []api.Value{}
	for _, name := range []string{"null", "boolean", "integer", "number", "string", "array", "object", "array", "object"}[:7+2*d.pick(2)] {
		names = append(names, specimen.Text(name))
	}
	out := few(d.pick, names)
	slices.SortFunc(out, func(a, b api.Value) int { return len(a.Text) - len(b.Text) })
	out = slices.CompactFunc(out, specimen.Alike)
	if d.spoilt() {
		out = append(out, out[0])
	}
	if len(out) == 1 && d.pick(2) == 0 {
		return out[0]
	}
	return specimen.List(out...)
}

func (d drawing) names() api.Value {
	out := few(d.pick, []api.Value{specimen.Text("a"), specimen.Text("b"), specimen.Text("c"), specimen.Text("d")})
	if d.spoilt() {
		out = append(out, specimen.Drawn(d.pick, 1))
	}
	return specimen.List(out...)
}

// with remarks is a document with remarks put in wherever an object is one.
func withRemarks(doc api.Value, pick specimen.Source) api.Value {
	if doc.Kind != api.Object {
		return doc
	}
	fields := map[string]api.Value{}
	for i, key := range doc.Keys {
		fields[key] = remarksBeside(key, doc.Items[i], pick)
	}
	for _, key := range []string{"title", "description", "$comment"} {
		if _, found := fields[key]; !found && pick(2) == 0 {
			fields[key] = specimen.Text("about")
		}
	}
	return object(fields)
}

func remarksBeside(key string, v api.Value, pick specimen.Source) api.Value {
	v.Items = slices.Clone(v.Items)
	switch {
	case key == "items", key == "additionalProperties":
		return withRemarks(v, pick)
	case key == "anyOf" && v.Kind == api.Array, key == "properties" && v.Kind == api.Object:
		for i, item := range v.Items {
			v.Items[i] = withRemarks(item, pick)
		}
	}
	return v
}
