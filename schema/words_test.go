package schema_test

import (
	"math/big"
	"math/rand"
	"slices"
	"sort"
	"strings"

	"hallmark/api"
	"hallmark/below"
	"hallmark/reader"
	"hallmark/shape"
	"hallmark/specimen"
	"hallmark/writer"
)

var (
	nums, texts, arrays, objects, objOf = specimen.Nums, specimen.Texts, specimen.Arrays, specimen.Objects, specimen.Obj
	never, every, null, truth           = api.Type{}, specimen.Every(), api.Type{Null: true}, api.Type{True: true}
	anyNumber, anyText, laid            = nums("", ""), api.Type{AnyText: true}, specimen.LaidOut()
	anyArray, anyObject                 = arrays(every, 0, -1), objects(objOf(every, nil))
)

func random(seed int64) specimen.Source { return rand.New(rand.NewSource(seed)).Intn }

// short is a text that can be read.
func short(a api.Type) string {
	out := specimen.Told(a)
	return out[:min(len(out), 1000)]
}

// plain is the beginning of a value's plain text.
func plain(v api.Value) string {
	out, _ := writer.Text(v)
	return out[:min(len(out), 1000)]
}

// js is the value of a text of JSON.
func js(s string) api.Value {
	out, e, _ := reader.One(s)
	if e != api.OK {
		panic(s)
	}
	return out
}

// with is two types in one: the second has what the first hasn't.
func with(a, b api.Type) api.Type {
	a.Null, a.False, a.True, a.AnyText = a.Null || b.Null, a.False || b.False, a.True || b.True, a.AnyText || b.AnyText
	a.Nums, a.Texts = slices.Concat(a.Nums, b.Nums), slices.Concat(a.Texts, b.Texts)
	a.Arrays, a.Objects = slices.Concat(a.Arrays, b.Arrays), slices.Concat(a.Objects, b.Objects)
	return a
}

// object is the object of these fields.
func object(fields map[string]api.Value) api.Value {
	out := specimen.Object(nil)
	for name := range fields {
		out.Keys = append(out.Keys, name)
	}
	slices.Sort(out.Keys)
	for _, name := range out.Keys {
		out.Items = append(out.Items, fields[name])
	}
	return out
}

// The chapter's words, said once more, plainly.

// said is what Of is to answer.
type said struct {
	of  api.Type
	way []api.Value
	e   api.Errno
}

// under is a fault told from a step further out.
func (s said) under(step api.Value) said {
	s.way = slices.Concat([]api.Value{step}, s.way)
	return s
}

func index(i int) api.Value { return specimen.Num(big.NewInt(int64(i)).String()) }

// get is what stands beside a key.
func get(v api.Value, key string) (api.Value, bool) {
	at := slices.Index(v.Keys, key)
	if at < 0 {
		return api.Value{}, false
	}
	return v.Items[at], true
}

// words is what has been said of parts already, by their plain texts: they are asked for again and again.
type words map[string]said

// wordsOf is the type of a document, or its first fault.
func wordsOf(v api.Value) said { return words{}.of(v) }

func (w words) of(v api.Value) said {
	text, _ := writer.Text(v)
	if _, found := w[text]; !found {
		w[text] = w.anew(v)
	}
	return w[text]
}

func (w words) anew(v api.Value) said {
	switch v.Kind {
	case api.True:
		return said{of: every}
	case api.False:
		return said{}
	case api.Object:
	default:
		return said{e: api.ErrSchema}
	}
	for i, key := range v.Keys {
		if !strings.Contains(mayStand(v), " "+key+" ") || strings.Contains(key, " ") || key == "" {
			return said{e: api.ErrKeyword}.under(specimen.Text(key))
		}
		if f := w.beside(key, v.Items[i]); f.e != api.OK {
			return f.under(specimen.Text(key))
		}
	}
	of, can := w.typeBy(v)
	if !can || !within(of, api.MaxHeight) {
		return said{e: api.ErrMany}
	}
	return said{of: of}
}

// mayStand are the keys that may stand in an object.
func mayStand(v api.Value) string {
	const remarks = " title description $comment "
	if _, found := get(v, "anyOf"); found {
		return " anyOf" + remarks
	}
	if _, found := get(v, "enum"); found {
		return " enum" + remarks
	}
	return " type minimum maximum minItems maxItems items properties required additionalProperties" + remarks
}

// beside is the first fault of what stands beside a key, if it has one.
func (w words) beside(key string, v api.Value) said {
	wrong := said{e: api.ErrGiven}
	elements := func(fault func(i int, item api.Value) said) said {
		for i, item := range v.Items {
			if f := fault(i, item); f.e != api.OK {
				return f.under(index(i))
			}
		}
		return said{}
	}
	once := func(right func(item api.Value) bool) func(i int, item api.Value) said {
		return func(i int, item api.Value) said {
			same := func(one api.Value) bool { return specimen.Alike(one, item) }
			if !right(item) || slices.ContainsFunc(v.Items[:i], same) {
				return wrong
			}
			return said{}
		}
	}
	switch key {
	case "title", "description", "$comment":
		if v.Kind != api.Text {
			return wrong
		}
	case "anyOf":
		if v.Kind != api.Array || len(v.Items) == 0 {
			return wrong
		}
		return elements(func(_ int, item api.Value) said { return w.of(item) })
	case "enum":
		if v.Kind != api.Array || len(v.Items) == 0 {
			return wrong
		}
		return elements(func(_ int, item api.Value) said {
			if item.Kind >= api.Array {
				return wrong
			}
			return said{}
		})
	case "type":
		if v.Kind == api.Text && kindsBy(v) == nil || v.Kind != api.Text && (v.Kind != api.Array || len(v.Items) == 0) {
			return wrong
		}
		return elements(once(func(item api.Value) bool { return kindsBy(item) != nil }))
	case "required":
		if v.Kind != api.Array {
			return wrong
		}
		return elements(once(func(item api.Value) bool { return item.Kind == api.Text }))
	case "minimum", "maximum":
		if v.Kind != api.Number {
			return wrong
		}
	case "minItems", "maxItems":
		if v.Kind != api.Number || !specimen.In(v, nums("0", "2147483647")) {
			return wrong
		}
	case "items", "additionalProperties":
		return w.of(v)
	case "properties":
		if v.Kind != api.Object {
			return wrong
		}
		for i, name := range v.Keys {
			if f := w.of(v.Items[i]); f.e != api.OK {
				return f.under(specimen.Text(name))
			}
		}
	}
	return said{}
}

// kindsBy are the kinds of a name.
func kindsBy(v api.Value) []int {
	if v.Kind != api.Text {
		return nil
	}
	return map[string][]int{"null": {api.Null}, "boolean": {api.False, api.True}, "integer": {api.Number}, "number": {api.Number}, "string": {api.Text}, "array": {api.Array}, "object": {api.Object}}[v.Text]
}

// within says whether a type is within the limits that the chapter names.
func within(t api.Type, height int) bool {
	right := len(t.Texts) <= 16 && len(t.Objects) <= 4 && (height > 0 || len(t.Arrays)+len(t.Objects) == 0)
	for _, o := range t.Objects {
		right = right && len(o.Names) <= 12
	}
	specimen.WithInner(t, func(in api.Type) api.Type { right = right && within(in, height-1); return in })
	return right
}

// typeBy is the type of an object that is a document, but for limits; false, if it would be too broad.
func (w words) typeBy(v api.Value) (api.Type, bool) {
	if l, found := get(v, "anyOf"); found {
		out := w.of(l.Items[0]).of
		for _, item := range l.Items[1:] {
			var can bool
			if out, can = twoBy(out, w.of(item).of); !can {
				return api.Type{}, false
			}
		}
		return out, true
	}
	if l, found := get(v, "enum"); found {
		return enumBy(l.Items)
	}
	return w.plainBy(v), true
}

func enumBy(l []api.Value) (api.Type, bool) {
	var out api.Type
	numbers := map[string]bool{}
	for _, v := range l {
		switch v.Kind {
		case api.Null:
			out.Null = true
		case api.False:
			out.False = true
		case api.True:
			out.True = true
		case api.Number:
			numbers[v.Num] = true
		case api.Text:
			if !slices.Contains(out.Texts, v.Text) {
				out.Texts = append(out.Texts, v.Text)
			}
		}
	}
	sort.Strings(out.Texts)
	if len(numbers) == 0 {
		return out, true
	}
	var least *big.Int
	for n := range numbers {
		if x := whole(n); least == nil || x.Cmp(least) < 0 {
			least = x
		}
	}
	greatest := new(big.Int).Set(least)
	for next := new(big.Int).Add(least, big.NewInt(1)); numbers[next.String()]; next.Add(next, big.NewInt(1)) {
		greatest.Set(next)
	}
	count := new(big.Int).Sub(greatest, least)
	out.Nums = []api.Span{{Low: least.String(), High: greatest.String()}}
	return out, count.Int64()+1 == int64(len(numbers))
}

// whole is a number as the library has it.
func whole(s string) *big.Int {
	out, ok := new(big.Int).SetString(s, 10)
	if !ok {
		panic(s)
	}
	return out
}

func (w words) plainBy(v api.Value) api.Type {
	kinds, any := specimen.Kinds(), false
	for _, key := range v.Keys {
		any = any || !strings.Contains(" title description $comment ", key)
	}
	if !any {
		return every
	}
	if names, found := get(v, "type"); found {
		kinds = kindsBy(names)
		for _, name := range names.Items {
			kinds = append(kinds, kindsBy(name)...)
		}
	}
	var out api.Type
	for _, kind := range kinds {
		switch kind {
		case api.Null:
			out.Null = true
		case api.False:
			out.False = true
		case api.True:
			out.True = true
		case api.Number:
			out.Nums = numbersBy(v)
		case api.Text:
			out.AnyText = true
		case api.Array:
			out.Arrays = w.arraysBy(v)
		case api.Object:
			out.Objects = w.objectsBy(v)
		}
	}
	return out
}

func numbersBy(v api.Value) []api.Span {
	low, _ := get(v, "minimum")
	high, _ := get(v, "maximum")
	if low.Num != "" && high.Num != "" && whole(low.Num).Cmp(whole(high.Num)) > 0 {
		return nil
	}
	return []api.Span{{Low: low.Num, High: high.Num}}
}

// inner is the type of the document beside a key; every, where the key is missing.
func (w words) inner(v api.Value, key string) api.Type {
	if doc, found := get(v, key); found {
		return w.of(doc).of
	}
	return every
}

// count is the number beside a key.
func count(v api.Value, key string, missing int) int {
	if n, found := get(v, key); found {
		return int(whole(n.Num).Int64())
	}
	return missing
}

func (w words) arraysBy(v api.Value) []api.Arr {
	out := api.Arr{Item: w.inner(v, "items"), Min: count(v, "minItems", 0), Max: count(v, "maxItems", -1)}
	if specimen.IsNever(out.Item) || out.Max == 0 {
		if out.Min == 0 {
			return []api.Arr{{Item: never, Min: 0, Max: 0}}
		}
		return nil
	}
	if out.Max >= 0 && out.Max < out.Min {
		return nil
	}
	return []api.Arr{out}
}

func (w words) objectsBy(v api.Value) []api.Obj {
	properties, _ := get(v, "properties")
	required, _ := get(v, "required")
	must := map[string]bool{}
	fields := map[string]api.Type{}
	for _, item := range required.Items {
		must[item.Text] = true
		fields[item.Text] = w.inner(v, "additionalProperties")
	}
	for i, key := range properties.Keys {
		fields[key] = w.of(properties.Items[i]).of
	}
	out := api.Obj{Rest: w.inner(v, "additionalProperties")}
	for name := range fields {
		out.Names = append(out.Names, name)
	}
	sort.Strings(out.Names)
	for _, name := range out.Names {
		if must[name] && specimen.IsNever(fields[name]) {
			return nil
		}
		out.Fields, out.Must = append(out.Fields, fields[name]), append(out.Must, must[name])
	}
	return []api.Obj{out}
}

// twoBy is two types put together; false, if it would be too broad.
func twoBy(a, b api.Type) (api.Type, bool) {
	if a.All || b.All {
		return every, true
	}
	out := api.Type{Null: a.Null || b.Null, False: a.False || b.False, True: a.True || b.True, AnyText: a.AnyText || b.AnyText, Objects: slices.Concat(a.Objects, b.Objects)}
	if !out.AnyText {
		out.Texts = slices.Concat(a.Texts, b.Texts)
		sort.Strings(out.Texts)
		out.Texts = slices.Compact(out.Texts)
	}
	var fit, too bool
	out.Nums, fit = spansBy(a.Nums, b.Nums)
	out.Arrays, too = arrsBy(a.Arrays, b.Arrays)
	return out, fit && too
}

// ends are a span's bounds, far out where there are none, and moved.
func ends(s api.Span, by int64) (*big.Int, *big.Int) {
	far := new(big.Int).Lsh(big.NewInt(1), 4000)
	low, high := new(big.Int).Neg(far), far
	if s.Low != "" {
		low = whole(s.Low)
	}
	if s.High != "" {
		high = whole(s.High)
	}
	return low.Add(low, big.NewInt(by)), high.Add(high, big.NewInt(by))
}

func spansBy(a, b []api.Span) ([]api.Span, bool) {
	if len(a) == 0 || len(b) == 0 {
		return slices.Concat(a, b), true
	}
	touch := false
	for _, by := range []int64{-1, 0, 1} {
		low, high := ends(a[0], 0)
		from, to := ends(b[0], by)
		touch = touch || low.Cmp(to) <= 0 && from.Cmp(high) <= 0
	}
	out := a[0]
	if b[0].Low == "" || out.Low != "" && whole(b[0].Low).Cmp(whole(out.Low)) < 0 {
		out.Low = b[0].Low
	}
	if b[0].High == "" || out.High != "" && whole(b[0].High).Cmp(whole(out.High)) > 0 {
		out.High = b[0].High
	}
	return []api.Span{out}, touch
}

func arrsBy(a, b []api.Arr) ([]api.Arr, bool) {
	if len(a) == 0 || len(b) == 0 {
		return slices.Concat(a, b), true
	}
	if below.Below(api.Type{Arrays: a}, api.Type{Arrays: b}) {
		return b, true
	}
	if below.Below(api.Type{Arrays: b}, api.Type{Arrays: a}) {
		return a, true
	}
	const boundless = 1 << 40
	x, y := a[0], b[0]
	for _, one := range []*api.Arr{&x, &y} {
		if one.Max < 0 {
			one.Max = boundless
		}
	}
	if !shape.Same(x.Item, y.Item) || x.Max < y.Min-1 || y.Max < x.Min-1 {
		return nil, false
	}
	out := api.Arr{Item: x.Item, Min: min(x.Min, y.Min), Max: max(x.Max, y.Max)}
	if out.Max == boundless {
		out.Max = -1
	}
	return []api.Arr{out}, true
}

// allows says whether a schema document allows a value.
func allows(doc, v api.Value) bool {
	if doc.Kind != api.Object {
		return doc.Kind == api.True
	}
	if l, found := get(doc, "anyOf"); found {
		return slices.ContainsFunc(l.Items, func(one api.Value) bool { return allows(one, v) })
	}
	if l, found := get(doc, "enum"); found {
		return slices.ContainsFunc(l.Items, func(one api.Value) bool { return specimen.Alike(one, v) })
	}
	for i, key := range doc.Keys {
		if !wordAllows(doc, key, doc.Items[i], v) {
			return false
		}
	}
	return true
}

// wordAllows says whether a word of a plain document allows a value.
func wordAllows(doc api.Value, key string, say, v api.Value) bool {
	isNumber, isArray, isObject := v.Kind == api.Number, v.Kind == api.Array, v.Kind == api.Object
	switch key {
	case "type":
		kinds := kindsBy(say)
		for _, name := range say.Items {
			kinds = append(kinds, kindsBy(name)...)
		}
		return slices.Contains(kinds, v.Kind)
	case "minimum":
		return !isNumber || whole(v.Num).Cmp(whole(say.Num)) >= 0
	case "maximum":
		return !isNumber || whole(v.Num).Cmp(whole(say.Num)) <= 0
	case "minItems":
		return !isArray || big.NewInt(int64(len(v.Items))).Cmp(whole(say.Num)) >= 0
	case "maxItems":
		return !isArray || big.NewInt(int64(len(v.Items))).Cmp(whole(say.Num)) <= 0
	case "items":
		return !isArray || !slices.ContainsFunc(v.Items, func(item api.Value) bool { return !allows(say, item) })
	case "required":
		return !isObject || !slices.ContainsFunc(say.Items, func(name api.Value) bool { return !slices.Contains(v.Keys, name.Text) })
	case "properties", "additionalProperties":
		properties, _ := get(doc, "properties")
		for i, name := range v.Keys {
			field, named := get(properties, name)
			if isObject && named && key == "properties" && !allows(field, v.Items[i]) || isObject && !named && key == "additionalProperties" && !allows(say, v.Items[i]) {
				return false
			}
		}
	}
	return true
}

// documentBy is the document of a well shaped type.
func documentBy(t api.Type) api.Value {
	if t.All {
		return specimen.Kind(api.True)
	}
	var pieces []api.Value
	piece := func(fields map[string]api.Value) { pieces = append(pieces, object(fields)) }
	var named []api.Value
	for kind, is := range []bool{t.Null, t.False, t.True} {
		if is {
			named = append(named, specimen.Kind(kind))
		}
	}
	for _, s := range t.Texts {
		named = append(named, specimen.Text(s))
	}
	if len(named) > 0 {
		piece(map[string]api.Value{"enum": specimen.List(named...)})
	}
	for _, span := range t.Nums {
		fields := map[string]api.Value{"type": specimen.Text("integer")}
		if span.Low != "" {
			fields["minimum"] = specimen.Num(span.Low)
		}
		if span.High != "" {
			fields["maximum"] = specimen.Num(span.High)
		}
		piece(fields)
	}
	if t.AnyText {
		piece(map[string]api.Value{"type": specimen.Text("string")})
	}
	for _, arr := range t.Arrays {
		piece(arrFields(arr))
	}
	for _, obj := range t.Objects {
		piece(objFields(obj))
	}
	switch len(pieces) {
	case 0:
		return specimen.Kind(api.False)
	case 1:
		return pieces[0]
	}
	return object(map[string]api.Value{"anyOf": specimen.List(pieces...)})
}

func arrFields(arr api.Arr) map[string]api.Value {
	fields := map[string]api.Value{"type": specimen.Text("array")}
	if arr.Min > 0 {
		fields["minItems"] = index(arr.Min)
	}
	if arr.Max >= 0 {
		fields["maxItems"] = index(arr.Max)
	}
	if !arr.Item.All && !specimen.IsNever(arr.Item) {
		fields["items"] = documentBy(arr.Item)
	}
	return fields
}

func objFields(obj api.Obj) map[string]api.Value {
	fields := map[string]api.Value{"type": specimen.Text("object")}
	named := map[string]api.Value{}
	var asked []api.Value
	for i, name := range obj.Names {
		named[name] = documentBy(obj.Fields[i])
		if obj.Must[i] {
			asked = append(asked, specimen.Text(name))
		}
	}
	if len(named) > 0 {
		fields["properties"] = object(named)
	}
	if len(asked) > 0 {
		fields["required"] = specimen.List(asked...)
	}
	if !obj.Rest.All {
		fields["additionalProperties"] = documentBy(obj.Rest)
	}
	return fields
}
