package arith_test

import (
	"slices"
	"strings"
	"testing"

	"hallmark/api"
	"hallmark/arith"
	"hallmark/specimen"
	"hallmark/value"
)

// did is what an operation answers of two values; where it answers none it is of no kind, so that no other operation takes it.
func did(op int, a, b api.Value) api.Value {
	if v, _, ok := arith.Do(op, a, b); ok {
		return v
	}
	return kind(-1)
}

// cut is what Slice answers, likewise.
func cut(of, from, to api.Value) api.Value {
	if v, _, ok := arith.Slice(of, from, to); ok {
		return v
	}
	return kind(-1)
}

// repeats says whether two values are a Text and a Number.
func repeats(a, b api.Value) bool {
	return kindsOf(api.Text, api.Number)(a, b) || kindsOf(api.Number, api.Text)(a, b)
}

// checkAnswers: of well shaped values each call answers one that is well shaped, or a fault that is a well shaped Text; neither, only where a text is repeated. No value is heavier than it may be.
func checkAnswers(t *testing.T, l ...api.Value) {
	t.Helper()
	for _, c := range allCalls() {
		got, given := c.do(l), l[:c.takes]
		most := 0
		for _, v := range given {
			most += 2 * value.Weight(v)
		}
		repeated := c.name == doing(api.Mul).name && repeats(l[0], l[1])
		if repeated {
			most = api.MaxFuel
		}
		var right bool
		switch {
		case got.Ok:
			right = formedOf(got.V) && specimen.Alike(got.Fault, api.Value{}) && value.Weight(got.V) <= most
		case repeated:
			right = alike(got, answer{})
		default:
			right = formedOf(got.Fault) && got.Fault.Kind == api.Text && specimen.Alike(got.V, api.Value{})
		}
		if !right {
			t.Errorf("%s of %s = %s", c.name, short(given), short(got))
		}
	}
}

// checkSides: just one of Lt, Eq, Gt is True, and the others go by these.
func checkSides(t *testing.T, a, b api.Value) {
	t.Helper()
	holds := map[int]bool{}
	many := 0
	for _, op := range []int{api.Lt, api.Eq, api.Gt, api.Ne, api.Le, api.Ge} {
		v := did(op, a, b)
		holds[op] = v.Kind == api.True
		if holds[op] && op != api.Ne && op != api.Le && op != api.Ge {
			many++
		}
		if !specimen.Alike(v, truth(holds[op]).V) {
			t.Errorf("Do(%d, %s, %s) = %s", op, short(a), short(b), short(v))
		}
	}
	turned := did(api.Lt, b, a).Kind == api.True
	if many != 1 || holds[api.Ne] == holds[api.Eq] || holds[api.Le] == holds[api.Gt] || holds[api.Ge] == holds[api.Lt] || holds[api.Gt] != turned {
		t.Errorf("%s against %s: %v", short(a), short(b), holds)
	}
}

// checkNumbers: differences undo sums, and quotients and rests make the whole again.
func checkNumbers(t *testing.T, a, b api.Value) {
	t.Helper()
	if got := did(api.Sub, did(api.Add, a, b), b); !specimen.Alike(got, a) {
		t.Errorf("%s + %s - %s = %s", a.Num, b.Num, b.Num, short(got))
	}
	if got := did(api.Add, did(api.Mul, did(api.Div, a, b), b), did(api.Mod, a, b)); b.Num != "0" && !specimen.Alike(got, a) {
		t.Errorf("%s / %s * %s + %s %% %s = %s", a.Num, b.Num, b.Num, a.Num, b.Num, short(got))
	}
}

// checkThree: three of one kind are added from either end.
func checkThree(t *testing.T, a, b, c api.Value) {
	t.Helper()
	left, right := did(api.Add, did(api.Add, a, b), c), did(api.Add, a, did(api.Add, b, c))
	if !formedOf(left) || !specimen.Alike(left, right) {
		t.Errorf("%s, %s and %s added: %s or %s", short(a), short(b), short(c), short(left), short(right))
	}
}

// checkParts: what stands ahead of a number and what stands from it on are the whole; so are three parts, if the numbers don't cross.
func checkParts(t *testing.T, of, from, to api.Value) {
	t.Helper()
	for _, n := range []api.Value{from, to} {
		if got := did(api.Add, cut(of, api.Value{}, n), cut(of, n, api.Value{})); !specimen.Alike(got, of) {
			t.Errorf("%s in two at %s: %s", short(of), n.Num, short(got))
		}
	}
	many := len(of.Items) + len([]rune(of.Text))
	if boundOf(from, 0, many) > boundOf(to, many, many) {
		return
	}
	if got := did(api.Add, did(api.Add, cut(of, api.Value{}, from), cut(of, from, to)), cut(of, to, api.Value{})); !specimen.Alike(got, of) {
		t.Errorf("%s in three at %s and %s: %s", short(of), from.Num, to.Num, short(got))
	}
}

// checkFollows holds the calls to one another on three well shaped values.
func checkFollows(t *testing.T, a, b, c api.Value) {
	t.Helper()
	checkAnswers(t, a, b, c)
	checkSides(t, a, b)
	if a.Kind == api.Number && b.Kind == api.Number {
		checkNumbers(t, a, b)
	}
	if a.Kind >= api.Number && a.Kind == b.Kind && b.Kind == c.Kind {
		checkThree(t, a, b, c)
	}
	if (a.Kind == api.Array || a.Kind == api.Text) && b.Kind == api.Number && c.Kind == api.Number {
		checkParts(t, a, b, c)
	}
}

// three are drawn values that fit one another more often than not.
func three(pick specimen.Source, of [7][]api.Value) [3]api.Value {
	one := func(kind int) api.Value { return of[kind][pick(len(of[kind]))] }
	x, y := pick(7), pick(7)
	switch pick(4) {
	case 0:
		return [3]api.Value{one(x), one(x), one(x)}
	case 1:
		return [3]api.Value{one(x), one(api.Number), one(api.Number)}
	case 2:
		a := one(x)
		if len(a.Items) > 0 {
			return [3]api.Value{a, keyed(pick, a), one(y)}
		}
		return [3]api.Value{a, a, a}
	}
	return [3]api.Value{one(x), one(y), one(pick(7))}
}

// keyed is a key of an item, or an array of some of the items.
func keyed(pick specimen.Source, v api.Value) api.Value {
	at := pick(len(v.Items))
	switch {
	case v.Kind == api.Object:
		return text(v.Keys[at])
	case pick(2) == 0:
		return whole(at - len(v.Items)*pick(2))
	}
	out := list(slices.Clone(v.Items[at:])...)
	slices.Reverse(out.Items)
	return out
}

func TestP20_8Follows(t *testing.T) {
	pick := random(208)
	of := specimen.ByKind(pick, 1500)
	for range 20000 {
		l := three(pick, of)
		checkFollows(t, l[0], l[1], l[2])
	}
}

func TestP20_8Sides(t *testing.T) {
	all := specimen.WellShaped(random(209), 150)
	for _, a := range all {
		for _, b := range all {
			checkSides(t, a, b)
		}
	}
}

func TestP20_8Numbers(t *testing.T) {
	all := slices.Concat(specimen.Far(), specimen.Numbers())
	for n := -12; n <= 12; n++ {
		all = append(all, whole(n).Num)
	}
	for _, a := range all {
		for _, b := range all {
			checkNumbers(t, num(a), num(b))
			for _, op := range opsOf() {
				doing(op).check(t, num(a), num(b))
			}
		}
	}
}

func TestP20_8Parts(t *testing.T) {
	for many := range 7 {
		for _, of := range rows(many) {
			for _, from := range boundsNear(many)[1:] {
				for _, to := range boundsNear(many)[1:] {
					checkParts(t, of, from, to)
				}
			}
		}
	}
}

// The heaviest answers beside what they are made of: nothing but the repeated text is heavier than twice that.
func TestP20_8Weight(t *testing.T) {
	long, nines := strings.Repeat("a", 3000), strings.Repeat("9", 3000)
	wide := list(slices.Repeat([]api.Value{kind(api.True)}, 3000)...)
	for _, l := range [][]api.Value{{text(long), text("")}, {text(long), text("a")}, {text(strings.Repeat("é", 2000)), text("")}, {num(nines), num(nines)}, {num("-" + nines), num("1")}, {num(nines), num("-1")}, {wide, wide}, {text(long), num("1")}, {text(long), num("3")}, {text(long), num("349")}, {text(long), num("350")}, {wide, num("0")}, {wide, whole(-3000)}} {
		for _, m := range [][]api.Value{{l[0], l[1], {}}, {l[1], l[0], {}}} {
			checkAnswers(t, m...)
		}
	}
}

// Each call on drawn values, well shaped and spoilt.
func TestP20_1P20_2P20_3P20_4P20_5P20_6P20_7Words(t *testing.T) {
	pick := random(20)
	of := specimen.ByKind(pick, 1000)
	for range 6000 {
		l := three(pick, of)
		for _, c := range allCalls() {
			c.check(t, l[:]...)
		}
		at := pick(3)
		l[at] = specimen.Spoilt(l[at], pick)
		for _, c := range allCalls() {
			c.check(t, l[:]...)
		}
	}
}

// What is handed in may share memory: the answer doesn't.
func TestMemoryShared(t *testing.T) {
	for _, v := range specimen.WellShaped(random(2020), 500) {
		given := specimen.Roomy(v)
		rows := [][]api.Value{{given, given, given}}
		for _, item := range given.Items {
			rows = append(rows, []api.Value{given, item, {}}, []api.Value{item, given, {}}, []api.Value{item, item, item}, []api.Value{{}, item, given})
		}
		for _, l := range rows {
			for _, c := range allCalls() {
				want := c.want(l)
				got, again := c.do(l), c.do(l)
				if !alike(got, want) || !alike(again, want) || !specimen.PlacesOf(got.V, again.V).Apart(specimen.PlacesOf(given)) || !specimen.Untouched(given, v) {
					t.Errorf("%s of %s = %s, and %s", c.name, short(l), short(got), short(again))
				}
			}
		}
	}
}

// Whether a list without elements is nil or not is nothing to any call.
func TestEmptyLists(t *testing.T) {
	filled := func(v api.Value) api.Value {
		v.Items, v.Keys = append([]api.Value{}, v.Items...), append([]string{}, v.Keys...)
		return v
	}
	for _, a := range specimen.AllOfEachKind() {
		for _, b := range specimen.AllOfEachKind() {
			for _, c := range allCalls() {
				want := c.do([]api.Value{a, b, b})
				for _, l := range [][]api.Value{{filled(a), b, b}, {a, filled(b), b}, {a, b, filled(b)}, {filled(a), filled(b), filled(b)}} {
					if got := c.do(l); !alike(got, want) {
						t.Errorf("%s of %s = %s, want %s", c.name, short(l), got.Told(), want.Told())
					}
				}
			}
		}
	}
}

func TestSameAtOnce(t *testing.T) {
	of := specimen.ByKind(random(2021), 30)
	ok := specimen.AtOnce(func() string {
		pick := random(2022)
		var out strings.Builder
		for range 300 {
			l := three(pick, of)
			for _, c := range allCalls() {
				out.WriteString(c.do(l[:]).Told() + "\n")
			}
		}
		return out.String()
	})
	if !ok {
		t.Error("eight at once are answered otherwise than one alone")
	}
}

// deepRows are values that are so deep, beside others.
func deepRows(most int) [][]api.Value {
	deep, other, bad := specimen.Nested(num("1"), most), specimen.Nested(num("2"), most), specimen.Nested(kind(9), most)
	first, second := object([]string{"a"}, specimen.Nested(num("1"), most-2)), object([]string{"a"}, specimen.Nested(num("2"), most-2))
	return [][]api.Value{{deep, other, deep}, {{}, deep, other}, {list(deep), list(deep, other), {}}, {first, second, {}}, {first, text("a"), {}}, {list(deep), num("0"), num("1")}, {bad, deep, {}}, {deep, bad, {}}, {deep, {}, bad}, {list(deep), list(bad), {}}}
}

// Deep values, and those that are as deep as the bound allows, which are looked at less often, as each look takes long.
func TestDeep(t *testing.T) {
	for _, c := range allCalls() {
		for _, l := range deepRows(1000) {
			c.check(t, l...)
		}
		for _, l := range deepRows(1 << 16) {
			if got, want := c.do(l), c.want(l); !alike(got, want) {
				t.Errorf("%s of what is very deep: %v, want %v", c.name, got.Ok, want.Ok)
			}
		}
	}
}

// objects is one object in the field of another one, so many times.
func objects(deep int, last api.Value) api.Value {
	for range deep {
		last = object([]string{"a"}, last)
	}
	return last
}

func TestDeepObjects(t *testing.T) {
	const most = 1 << 16
	a, b := objects(most-1, object([]string{"x"}, num("1"))), objects(most-1, object([]string{"y"}, num("2")))
	if got := did(api.Mul, a, b); !specimen.Alike(got, objects(most-1, object([]string{"x", "y"}, num("1"), num("2")))) {
		t.Error("objects that are deep inside one another aren't put together")
	}
}

// Very many items on both sides: what is left of them doesn't cost their numbers multiplied.
func TestP20_3SubMany(t *testing.T) {
	const many = 200000
	a, b, want := list(), list(), list()
	for i := range many {
		a.Items = append(a.Items, whole(i%(many/2)))
		b.Items = append(b.Items, whole((many-i)*2))
		if i%(many/2)%2 == 1 || i%(many/2) == 0 {
			want.Items = append(want.Items, a.Items[i])
		}
	}
	if got := did(api.Sub, a, b); !specimen.Alike(got, want) {
		t.Errorf("%d items are left, want %d", len(got.Items), len(want.Items))
	}
	if got := did(api.Sub, a, a); !specimen.Alike(got, list()) {
		t.Errorf("%d items are left of those less themselves", len(got.Items))
	}
	if got := did(api.Sub, list(slices.Repeat([]api.Value{num("1")}, many)...), list(slices.Repeat([]api.Value{num("2")}, many)...)); len(got.Items) != many {
		t.Errorf("%d items are left of ones less twos", len(got.Items))
	}
}

func FuzzAny(f *testing.F) {
	for _, s := range []string{"", "\x00\x04\x01\x03\x02", "\x01\x05\x03\x06\x02\x01\x06\x04\x03\x03", "abcdefghijklmnopqrstuvwxyz", "\x02\x05\x03\x03\x01\x03\x02\x03\x03\x04\x01\x04\x02\x01\x00\x01\x02\x01"} {
		f.Add([]byte(s))
	}
	f.Fuzz(func(t *testing.T, data []byte) {
		pick := specimen.Picks(data)
		how := pick(8)
		of := [7][]api.Value{{{}}, {kind(api.False)}, {kind(api.True)}, {num(specimen.DrawnNumber(pick)), num(specimen.DrawnNumber(pick))}, {text(specimen.DrawnText(pick)), text(specimen.DrawnText(pick))}}
		for range 2 {
			array := list()
			for range pick(5) {
				array.Items = append(array.Items, specimen.Drawn(pick, 2))
			}
			of[api.Array], of[api.Object] = append(of[api.Array], array), append(of[api.Object], specimen.DrawnObject(pick, 3))
		}
		l := three(pick, of)
		checkFollows(t, l[0], l[1], l[2])
		if how == 1 {
			at := pick(3)
			l[at] = specimen.Spoilt(l[at], pick)
		}
		for _, c := range allCalls() {
			c.check(t, l[:]...)
		}
		word := string(data)
		if got := arith.Fault(word); !specimen.Alike(got, faultOf(word)) {
			t.Errorf("Fault(%q) = %v", word, got)
		}
	})
}
