package specimen

import (
	"slices"
	"strconv"
	"strings"

	"hallmark/api"
)

// Named are so many names, of five digits or more: up to 100000 of them rise.
func Named(many int) []string {
	var out []string
	for i := range many {
		digits := strconv.Itoa(i)
		out = append(out, strings.Repeat("0", max(5-len(digits), 0))+digits)
	}
	return out
}

// Wide is an alternative of so many fields of a type, all of which must be there or none.
func Wide(many int, field api.Type, must bool, rest api.Type) api.Obj {
	return api.Obj{Names: Named(many), Fields: slices.Repeat([]api.Type{field}, many), Must: slices.Repeat([]bool{must}, many), Rest: rest}
}

// Nest is arrays nested so deep, around a type.
func Nest(t api.Type, deep int) api.Type {
	for range deep {
		t = Arrays(t, 0, -1)
	}
	return t
}

// WithInner is a type with others in the place of those that lie in it at once.
func WithInner(t api.Type, become func(api.Type) api.Type) api.Type {
	t.Arrays, t.Objects = slices.Clone(t.Arrays), slices.Clone(t.Objects)
	for i, arr := range t.Arrays {
		t.Arrays[i].Item = become(arr.Item)
	}
	for i, o := range t.Objects {
		t.Objects[i].Rest, t.Objects[i].Fields = become(o.Rest), slices.Clone(o.Fields)
		for k, field := range o.Fields {
			t.Objects[i].Fields[k] = become(field)
		}
	}
	return t
}

// PartsOf is how many parts a type has.
func PartsOf(t api.Type) int {
	many := 1
	WithInner(t, func(in api.Type) api.Type { many += PartsOf(in); return in })
	return many
}

// InLimits says whether a type has no more than normal forms may have: so its own loses nothing.
func InLimits(t api.Type) bool { return PartsOf(t) <= api.MaxPieces && inLimits(t, api.MaxHeight) }

// inLimits says it of the lists of each part, and of how high the type is.
func inLimits(t api.Type, height int) bool {
	right := len(t.Texts) <= api.MaxTexts && len(t.Objects) <= api.MaxAlts && (height > 0 || len(t.Arrays)+len(t.Objects) == 0)
	for _, o := range t.Objects {
		right = right && len(o.Names) <= api.MaxFields
	}
	WithInner(t, func(in api.Type) api.Type { right = right && inLimits(in, height-1); return in })
	return right
}

// Shuffled is a type with its alternatives in another order, some of them twice, in each part.
func Shuffled(t api.Type, pick Source) api.Type {
	t = WithInner(t, func(in api.Type) api.Type { return Shuffled(in, pick) })
	l := t.Objects
	for i := range l {
		k := pick(i + 1)
		l[i], l[k] = l[k], l[i]
	}
	if len(l) > 0 {
		t.Objects = append(l, l[pick(len(l))])
	}
	return t
}

// FoundStray is a value of a type that isn't of another one, if one is found, by search or by chance.
func FoundStray(a, b api.Type, pick Source) (api.Value, bool) {
	var all []api.Value
	if PartsOf(a)*PartsOf(b) < 1000 { // in large types the search takes long
		all = Strays(a, b)
	}
	for range 8 {
		if v, ok := DrawnOf(a, pick, Kinds()...); ok {
			all = append(all, v)
		}
	}
	for _, v := range all {
		if !In(v, b) {
			return v, true
		}
	}
	return api.Value{}, false
}
