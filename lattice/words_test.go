package lattice_test

import (
	"math/big"
	"math/rand"
	"slices"

	"hallmark/api"
	"hallmark/shape"
	"hallmark/specimen"
	"hallmark/tidy"
)

var (
	nums, texts, arrays, objects, objOf = specimen.Nums, specimen.Texts, specimen.Arrays, specimen.Objects, specimen.Obj
	never, every, null, truth           = api.Type{}, specimen.Every(), api.Type{Null: true}, api.Type{True: true}
	both, anyNumber, anyText, laid      = api.Type{Null: true, True: true}, nums("", ""), api.Type{AnyText: true}, specimen.LaidOut()
	anyArray, anyObject                 = arrays(every, 0, -1), objects(objOf(every, nil))
	alike, isNever, named, nest         = specimen.AlikeTypes, specimen.IsNever, specimen.Named, specimen.Nest
)

func random(seed int64) specimen.Source { return rand.New(rand.NewSource(seed)).Intn }

// short is a text that can be read.
func short(a api.Type) string {
	out := specimen.Told(a)
	return out[:min(len(out), 1000)]
}

// norm is the normal form.
func norm(a api.Type) api.Type {
	out, e := tidy.Tidy(a)
	if e != api.OK {
		panic("no normal form: " + short(a))
	}
	return out
}

// The chapter's words, said once more, plainly.

func joinOf(a, b api.Type) api.Type {
	sum, _ := tidy.Sum(a, b)
	return norm(sum)
}

func meetOf(a, b api.Type) api.Type { return norm(commonOf(a, b)) }

// commonOf is the common part of two types.
func commonOf(a, b api.Type) api.Type {
	if a.All || b.All {
		return [...]api.Type{a, b}[map[bool]int{true: 1}[a.All]]
	}
	out := api.Type{Null: a.Null && b.Null, False: a.False && b.False, True: a.True && b.True, AnyText: a.AnyText && b.AnyText}
	for _, text := range slices.Concat(a.Texts, b.Texts) {
		fits := (a.AnyText || slices.Contains(a.Texts, text)) && (b.AnyText || slices.Contains(b.Texts, text))
		if fits && !slices.Contains(out.Texts, text) {
			out.Texts = append(out.Texts, text)
		}
	}
	slices.Sort(out.Texts)
	for _, x := range a.Nums {
		for _, y := range b.Nums {
			out.Nums = commonSpan(x, y)
		}
	}
	for _, x := range a.Arrays {
		for _, y := range b.Arrays {
			out.Arrays = commonArr(x, y)
		}
	}
	for _, x := range a.Objects {
		for _, y := range b.Objects {
			out.Objects = append(out.Objects, commonObj(x, y)...)
		}
	}
	return out
}

func whole(s string) *big.Int {
	n, _ := new(big.Int).SetString(s, 10)
	return n
}

func commonSpan(x, y api.Span) []api.Span {
	out := x
	if x.Low == "" || y.Low != "" && whole(y.Low).Cmp(whole(x.Low)) > 0 {
		out.Low = y.Low
	}
	if x.High == "" || y.High != "" && whole(y.High).Cmp(whole(x.High)) < 0 {
		out.High = y.High
	}
	if out.Low != "" && out.High != "" && whole(out.Low).Cmp(whole(out.High)) > 0 {
		return nil
	}
	return []api.Span{out}
}

func commonArr(x, y api.Arr) []api.Arr {
	out := api.Arr{Item: commonOf(x.Item, y.Item), Min: max(x.Min, y.Min), Max: min(x.Max, y.Max)}
	if x.Max < 0 {
		out.Max = y.Max
	} else if y.Max < 0 {
		out.Max = x.Max
	}
	switch {
	case out.Max >= 0 && out.Max < out.Min, isNever(out.Item) && out.Min != 0:
		return nil
	case out.Max == 0, isNever(out.Item):
		return []api.Arr{{Item: never, Min: 0, Max: 0}}
	}
	return []api.Arr{out}
}

func commonObj(x, y api.Obj) []api.Obj {
	out := api.Obj{Names: specimen.NamesOf(x, y), Rest: commonOf(x.Rest, y.Rest)}
	for _, name := range out.Names {
		of, must := specimen.FieldOf(x, name)
		other, asked := specimen.FieldOf(y, name)
		field := commonOf(of, other)
		if (must || asked) && isNever(field) {
			return nil
		}
		out.Fields, out.Must = append(out.Fields, field), append(out.Must, must || asked)
	}
	return []api.Obj{out}
}

// leftOf is what a type has of some kinds, ahead of the normal form.
func leftOf(a api.Type, kinds uint8) api.Type {
	if a.All {
		return shape.OfKinds(kinds)
	}
	has := func(kind int) bool { return kinds>>kind%2 == 1 }
	out := api.Type{Null: a.Null && has(api.Null), False: a.False && has(api.False), True: a.True && has(api.True)}
	if has(api.Number) {
		out.Nums = a.Nums
	}
	if has(api.Text) {
		out.AnyText, out.Texts = a.AnyText, a.Texts
	}
	if has(api.Array) {
		out.Arrays = a.Arrays
	}
	if has(api.Object) {
		out.Objects = a.Objects
	}
	return out
}

// withoutOf is a type without a value, ahead of the normal form.
func withoutOf(a api.Type, v api.Value) api.Type {
	switch {
	case v.Kind <= api.True && a.All:
		return shape.OfKinds(127 - 1<<v.Kind)
	case v.Kind == api.Null:
		a.Null = false
	case v.Kind == api.False:
		a.False = false
	case v.Kind == api.True:
		a.True = false
	case v.Kind == api.Number && len(a.Nums) > 0:
		a.Nums = withoutNumber(a.Nums[0], v.Num)
	case v.Kind == api.Text:
		a.Texts = slices.DeleteFunc(slices.Clone(a.Texts), func(text string) bool { return text == v.Text })
	case v.Kind == api.Array && len(v.Items) == 0 && len(a.Arrays) > 0 && a.Arrays[0].Min == 0:
		if a.Arrays[0].Max == 0 {
			a.Arrays = nil
		} else {
			a.Arrays = arrays(a.Arrays[0].Item, 1, a.Arrays[0].Max).Arrays
		}
	}
	return a
}

func withoutNumber(s api.Span, n string) []api.Span {
	one := big.NewInt(1)
	switch {
	case s.Low == n && s.High == n:
		return nil
	case s.Low == n:
		s.Low = new(big.Int).Add(whole(n), one).String()
	case s.High == n:
		s.High = new(big.Int).Sub(whole(n), one).String()
	}
	return []api.Span{s}
}

func widenOf(a, b api.Type) api.Type { return wideOf(a, b, false) }

func looseOf(a, b api.Type) api.Type { return wideOf(a, b, true) }

// wideOf is two types widened, loosely or not.
func wideOf(a, b api.Type, loosely bool) api.Type {
	j, was := joinOf(a, b), norm(a)
	if alike(j, was) || j.All {
		return j
	}
	out := j
	if len(was.Nums) > 0 {
		span := was.Nums[0]
		if span.Low != j.Nums[0].Low {
			span.Low = ""
		}
		if span.High != j.Nums[0].High {
			span.High = ""
		}
		out.Nums = []api.Span{span}
	}
	if (was.AnyText || len(was.Texts) > 0) && (was.AnyText != j.AnyText || !slices.Equal(was.Texts, j.Texts)) {
		out.AnyText, out.Texts = true, nil
	}
	newArrays := len(was.Arrays) > 0 && !alike(api.Type{Arrays: was.Arrays}, api.Type{Arrays: j.Arrays})
	newObjects := len(was.Objects) > 0 && !alike(objects(was.Objects...), objects(j.Objects...))
	switch {
	case newArrays && loosely:
		out.Arrays = anyArray.Arrays
	case newArrays:
		out.Arrays = []api.Arr{wideArr(was.Arrays[0], j.Arrays[0])}
	}
	switch {
	case newObjects && loosely:
		out.Objects = anyObject.Objects
	case newObjects:
		out.Objects = []api.Obj{wideObj(was.Objects, j.Objects)}
	}
	return norm(out)
}

func wideArr(was, is api.Arr) api.Arr {
	out := api.Arr{Item: looseOf(was.Item, is.Item), Min: is.Min, Max: is.Max}
	if is.Min != was.Min {
		out.Min = 0
	}
	if is.Max != was.Max {
		out.Max = -1
	}
	return out
}

func wideObj(was, is []api.Obj) api.Obj {
	x, _ := tidy.One(was)
	y, _ := tidy.One(is)
	out := api.Obj{Names: x.Names}
	for i, name := range x.Names {
		of, must := specimen.FieldOf(y, name)
		out.Fields, out.Must = append(out.Fields, looseOf(x.Fields[i], of)), append(out.Must, x.Must[i] && must)
	}
	rest := norm(y.Rest)
	for i, name := range y.Names {
		if !slices.Contains(x.Names, name) {
			rest = joinOf(rest, y.Fields[i])
		}
	}
	out.Rest = looseOf(x.Rest, rest)
	return out
}
