package prim_test

import (
	"slices"
	"strconv"
	"testing"

	"hallmark/api"
	"hallmark/path"
	"hallmark/prim"
	"hallmark/specimen"
)

// drawn is a primitive's input and arguments, which fit it more often than not.
func drawn(pick specimen.Source, of [7][]api.Value, p one) []api.Value {
	any := func() api.Value { return of[pick(7)][0] }
	some := func(kind int) api.Value { return of[kind][pick(len(of[kind]))] }
	if pick(6) == 0 {
		any = func() api.Value { return some(pick(7)) }
		return []api.Value{any(), any(), any()}[:p.takes+1]
	}
	v := some(pick(7))
	switch p.name {
	case "keys", "has":
		v = some(api.Array + pick(2))
		return []api.Value{v, keyOf(pick, v)}[:p.takes+1]
	case "contains":
		return []api.Value{v, partOf(pick, v)}
	case "abs":
		return []api.Value{some(api.Number)}
	case "tonumber":
		return []api.Value{text(specimen.DrawnNumber(pick))}
	case "fromjson":
		return []api.Value{text(spoiltText(pick, prim.String(v)))}
	case "utf8bytelength", "ascii_downcase", "ascii_upcase", "explode":
		return []api.Value{some(api.Text)}
	case "implode":
		return []api.Value{runesOf(pick)}
	case "startswith", "endswith", "ltrimstr", "rtrimstr", "split":
		v = some(api.Text)
		return []api.Value{v, text(pieceOf(pick, v.Text))}
	case "join":
		return []api.Value{listOf(pick, of, pick(13), api.Null, api.False, api.True, api.Number, api.Text), some(api.Text)}
	case "indices":
		return indexed(pick, of)
	case "add":
		return []api.Value{listOf(pick, of, pick(6), []int{api.Null, 1 + pick(6)}...)}
	case "transpose":
		return []api.Value{listOf(pick, of, pick(5), api.Array)}
	case "flatten", "sort", "unique", "min", "max", "reverse":
		return []api.Value{listOf(pick, of, pick(7), api.Array, pick(7), api.Number)}
	case "_sort_by", "_group_by", "_unique_by", "_min_by", "_max_by":
		return []api.Value{listOf(pick, of, pick(6), pick(7), pick(7)), keysFor(pick)}
	case "getpath", "setpath":
		return []api.Value{v, list(wayOf(pick, v)...), any()}[:p.takes+1]
	case "delpaths":
		ways := list()
		for range pick(4) {
			ways.Items = append(ways.Items, list(wayOf(pick, v)...))
		}
		return []api.Value{v, ways}
	}
	return []api.Value{v}
}

// keyOf is a key that an array or object has, or nearly has.
func keyOf(pick specimen.Source, v api.Value) api.Value {
	many := len(v.Items)
	switch {
	case v.Kind == api.Array:
		return whole(pick(2*many+3) - many - 1)
	case many > 0 && pick(3) > 0:
		return text(v.Keys[pick(many)])
	}
	return text(specimen.Names()[pick(len(specimen.Names()))])
}

// partOf is a value that this one holds, mostly.
func partOf(pick specimen.Source, v api.Value) api.Value {
	out := kind(v.Kind)
	switch {
	case pick(12) == 0:
		return specimen.Drawn(pick, 2)
	case v.Kind == api.Text:
		return text(pieceOf(pick, v.Text))
	case v.Kind < api.Text:
		return v
	}
	for i, item := range v.Items {
		if pick(3) == 0 {
			continue
		}
		out.Items = append(out.Items, partOf(pick, item))
		if v.Kind == api.Object {
			out.Keys = append(out.Keys, v.Keys[i])
		}
	}
	if v.Kind == api.Array && pick(2) == 0 {
		slices.Reverse(out.Items)
	}
	return out
}

// pieceOf is some runes of a text, or another one.
func pieceOf(pick specimen.Source, s string) string {
	runes := []rune(s)
	from := pick(len(runes) + 1)
	to := from + pick(len(runes)-from+1)
	switch pick(5) {
	case 0:
		return specimen.DrawnText(pick)
	case 1:
		return string(runes[:to])
	case 2:
		return string(runes[from:])
	}
	return string(runes[from:to])
}

// spoiltText is a text, sometimes with a byte of it left out, or one more.
func spoiltText(pick specimen.Source, s string) string {
	runes := []rune(s)
	at := pick(len(runes) + 1)
	switch pick(4) {
	case 0:
		return string(slices.Insert(runes, at, []rune{' ', ',', '0', '"', ']', 'x', '-'}[pick(7)]))
	case 1:
		return string(slices.Delete(runes, at, min(at+1, len(runes))))
	}
	return s
}

// runesOf is an array of numbers, most of them runes.
func runesOf(pick specimen.Source) api.Value {
	out := list()
	for range pick(7) {
		n := []int{0, 65, 127, 128, 233, 2047, 2048, 55295, 57344, 65533, 65535, 65536, 128512, 1114111}[pick(14)]
		if pick(20) == 0 {
			n += []int{55296, 1114112, -n - 1, 1}[pick(4)]
		}
		out.Items = append(out.Items, whole(n))
	}
	return out
}

// listOf is an array of so many values of these kinds.
func listOf(pick specimen.Source, of [7][]api.Value, many int, kinds ...int) api.Value {
	out := list()
	for range many {
		from := of[kinds[pick(len(kinds))]]
		out.Items = append(out.Items, from[pick(len(from))])
	}
	return out
}

// indexed is what is looked through, and what is looked for, of few different items.
func indexed(pick specimen.Source, of [7][]api.Value) []api.Value {
	if pick(3) == 0 {
		v := text(specimen.DrawnText(pick) + specimen.DrawnText(pick))
		return []api.Value{v, text(pieceOf(pick, v.Text))}
	}
	few := [7][]api.Value{api.Number: {num("1"), num("2")}, api.Array: {list(), list(num("1"))}, api.Null: {{}}, api.Text: {text("1"), of[api.Text][0]}}
	kinds := [][]int{{api.Number}, {api.Number, api.Array}, {api.Null, api.Text}}[pick(3)]
	v := listOf(pick, few, pick(9), kinds...)
	part := listOf(pick, few, pick(4), kinds...)
	if pick(3) == 0 {
		return []api.Value{v, listOf(pick, few, 1, kinds...).Items[0]}
	}
	return []api.Value{v, part}
}

// keysFor are keys of which several are the same.
func keysFor(pick specimen.Source) api.Value {
	out := list()
	for range pick(7) {
		out.Items = append(out.Items, []api.Value{{}, num("1"), num("2"), list(num("1")), text("a")}[pick(5)])
	}
	return out
}

// wayOf is a way that is there in a value, or goes on behind one, or has another key.
func wayOf(pick specimen.Source, v api.Value) []api.Value {
	var ways [][]api.Value
	for way := range path.All(v) {
		ways = append(ways, way)
	}
	way := ways[pick(len(ways))]
	switch pick(5) {
	case 0:
		way = append(way, []api.Value{text("a"), num("0"), num("-1"), num("3"), {}}[pick(5)])
	case 1:
		if len(way) > 0 && way[len(way)-1].Kind == api.Number {
			n, _ := strconv.Atoi(way[len(way)-1].Num)
			way[len(way)-1] = whole(n - pick(5))
		}
	}
	return way
}

// drawnKinds are values of each kind from which is drawn.
func drawnKinds(seed int64, many int) [7][]api.Value { return specimen.ByKind(random(seed), many) }

// Each primitive on drawn values, well shaped and spoilt.
func TestP21_2Words(t *testing.T) {
	of := drawnKinds(215, 300)
	pick := random(216)
	for _, p := range allOnes() {
		went := 0
		for range 4000 {
			l := drawn(pick, of, p)
			check(t, p.name, l[0], l[1:]...)
			if do(p.name, l[0], l[1:]...).Ok {
				went++
			}
			if pick(8) == 0 {
				at := pick(len(l))
				l[at] = specimen.Spoilt(l[at], pick)
				checkNeither(t, p.name, l[0], l[1:]...)
				check(t, p.name, l[0], l[1:]...)
			}
		}
		if went < 1000 {
			t.Errorf("%s goes well of %d alone", p.name, went)
		}
	}
}

// Many items on both sides are looked for otherwise than few.
func TestP21_2ContainsMany(t *testing.T) {
	of := drawnKinds(220, 300)
	pick := random(221)
	held := 0
	for range 3000 {
		v := listOf(pick, of, pick(40), 0, 1, 2, 3, 4, 5, 6)
		a := partOf(pick, v)
		for a.Kind == api.Array && pick(4) > 0 && len(v.Items) > 0 {
			a.Items = append(a.Items, partOf(pick, v.Items[pick(len(v.Items))]))
		}
		if pick(2) == 0 && len(a.Items) > 0 {
			a.Items = slices.Repeat(a.Items, 1+pick(20))
		}
		check(t, "contains", v, a)
		if do("contains", v, a).V.Kind == api.True && len(a.Items) > 20 {
			held++
		}
	}
	if held < 200 {
		t.Errorf("%d alone are held", held)
	}
}

// What is handed in may share memory: the answer doesn't.
func TestMemoryShared(t *testing.T) {
	for _, v := range specimen.WellShaped(random(217), 400) {
		given := specimen.Roomy(v)
		rows := [][]api.Value{{given, given, given}}
		for _, item := range given.Items {
			rows = append(rows, []api.Value{given, item, given}, []api.Value{item, given, item}, []api.Value{item, item, given}, []api.Value{list(given, item), list(item, given), item}, []api.Value{list(given, given), list(given), given})
		}
		for _, l := range rows {
			for _, p := range allOnes() {
				c, l := asked(p.name), l[:p.takes+1]
				want, got, again := c.Want(l), c.Do(l), c.Do(l)
				if !alike(got, want) || !alike(again, want) || !specimen.PlacesOf(got.V, again.V).Apart(specimen.PlacesOf(given)) || !specimen.Untouched(given, v) {
					t.Errorf("%s of %s = %s, and %s", p.name, short(l), short(got.Told()), short(again.Told()))
				}
			}
		}
	}
}

// Whether a list without elements is nil or not is nothing to any primitive, nor whether there is a list of arguments where there are none.
func TestEmptyLists(t *testing.T) {
	filled := func(v api.Value) api.Value {
		v.Items, v.Keys = append([]api.Value{}, v.Items...), append([]string{}, v.Keys...)
		return v
	}
	for _, p := range allOnes() {
		for _, a := range specimen.AllOfEachKind() {
			for _, b := range specimen.AllOfEachKind() {
				want := do(p.name, a, []api.Value{b, b}[:p.takes]...)
				for _, l := range [][]api.Value{{filled(a), b, b}, {a, filled(b), b}, {a, b, filled(b)}, {filled(a), filled(b), filled(b)}} {
					if got := do(p.name, l[0], l[1:p.takes+1]...); !alike(got, want) {
						t.Errorf("%s of %s = %s, want %s", p.name, short(l), got.Told(), want.Told())
					}
				}
			}
			for _, none := range [][]api.Value{nil, {}, make([]api.Value, 0, 3)} {
				if got := do(p.name, a, none...); p.takes == 0 && !alike(got, doOf(p.name, a, nil)) || p.takes > 0 && !alike(got, answer{}) {
					t.Errorf("%s of %v and no arguments = %s", p.name, a, got.Told())
				}
			}
		}
	}
}

func TestSameAtOnce(t *testing.T) {
	of := drawnKinds(218, 30)
	ok := specimen.AtOnce(func() string {
		pick := random(219)
		out := ""
		for range 20 {
			for _, p := range allOnes() {
				l := drawn(pick, of, p)
				out += do(p.name, l[0], l[1:]...).Told() + "\n"
			}
		}
		return out
	})
	if !ok {
		t.Error("eight at once are answered otherwise than one alone")
	}
}

// deepRows are values that are so deep, beside others.
func deepRows(deep int) [][]api.Value {
	v, other, bad := specimen.Nested(num("1"), deep), specimen.Nested(num("2"), deep), specimen.Nested(kind(9), deep)
	arrays := num("1")
	way := list()
	for i := range deep {
		arrays = list(arrays)
		way.Items = append(way.Items, []api.Value{text("a"), num("0")}[(i+deep)%2])
	}
	return [][]api.Value{{v, v, v}, {v, other, v}, {list(v, other), list(v), v}, {list(other, v), list(other, v), {}}, {arrays, arrays, num("1")}, {list(arrays, list(), arrays), list(arrays), {}}, {field("a", v), field("a", v), {}}, {v, way, other}, {{}, way, v}, {v, list(way), v}, {bad, v, v}, {v, bad, v}, {v, v, bad}, {list(v), list(bad), {}}}
}

// Deep values, and those that are as deep as the bound allows, which are looked at less often, as each look takes long.
func TestDeep(t *testing.T) {
	deep, deepest := deepRows(500), deepRows(1<<16-2)
	for _, p := range allOnes() {
		for _, l := range deep {
			check(t, p.name, l[0], l[1:p.takes+1]...)
		}
		for _, l := range deepest {
			c := asked(p.name)
			if got, want := c.Do(l[:p.takes+1]), c.Want(l[:p.takes+1]); !alike(got, want) {
				t.Errorf("%s of what is very deep: %v, want %v", p.name, got.Ok, want.Ok)
			}
		}
	}
}
