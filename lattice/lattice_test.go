package lattice_test

import (
	"math"
	"slices"
	"testing"

	"hallmark/api"
	"hallmark/lattice"
	"hallmark/shape"
	"hallmark/specimen"
	"hallmark/tidy"
)

// two is a call that is handed two types, and what the words say of it.
type two struct {
	name  string
	do    func(a, b api.Type) (api.Type, api.Errno)
	words func(a, b api.Type) api.Type
}

var (
	join  = two{"Join", lattice.Join, joinOf}
	meet  = two{"Meet", lattice.Meet, meetOf}
	widen = two{"Widen", lattice.Widen, widenOf}
)

// is holds a call to what is written out, which is what the words say.
func (c two) is(t *testing.T, a, b, want api.Type) {
	t.Helper()
	if words := c.words(a, b); !alike(words, want) {
		t.Errorf("%s(%s, %s): by the words %s, want %s", c.name, short(a), short(b), short(words), short(want))
	}
	c.answers(t, a, b, want)
}

// check holds a call to the words.
func (c two) check(t *testing.T, a, b api.Type) {
	t.Helper()
	c.answers(t, a, b, c.words(a, b))
}

// answers holds a call to an answer, and to the rules of memory.
func (c two) answers(t *testing.T, a, b, want api.Type) {
	t.Helper()
	x, y := specimen.RoomyType(a), specimen.RoomyType(b)
	got, e := c.do(x, y)
	if e != api.OK || !alike(got, want) {
		t.Errorf("%s(%s, %s) = %s, %v, want %s", c.name, short(a), short(b), short(got), e, short(want))
	}
	sound(t, got, x, y)
	if !specimen.UntouchedType(x, a) || !specimen.UntouchedType(y, b) {
		t.Errorf("%s(%s, %s): what was handed in was changed", c.name, short(a), short(b))
	}
}

// isBoth holds it to one answer, whichever type stands first.
func (c two) isBoth(t *testing.T, a, b, want api.Type) {
	t.Helper()
	c.is(t, a, b, want)
	c.is(t, b, a, want)
}

// sound: an answer is well shaped, tidy, within the limits and in memory of its own; it is written into.
func sound(t *testing.T, got api.Type, given ...api.Type) {
	t.Helper()
	if !shape.Formed(got) || !tidy.Is(got) || !specimen.InLimits(got) || !specimen.OwnType(got, given...) {
		t.Errorf("%s: not well shaped, not tidy, beyond the limits, or in memory that isn't its own", short(got))
	}
	specimen.ScribbleType(got)
}

// refused: an answer that tells what isn't well shaped, and nothing else.
func refused(t *testing.T, call string, got api.Type, e api.Errno) {
	t.Helper()
	if e != api.ErrShape || !isNever(got) {
		t.Errorf("%s = %s, %v", call, short(got), e)
	}
}

// Types that aren't well shaped, at each place, beside each sort of type that is.
func TestP13_1Types(t *testing.T) {
	right := []api.Type{never, every, laid, null, arrays(nums("1", "2"), 0, -1), objects(single("a!"), objOf(every, nil))}
	v := []api.Value{{}, specimen.Num("1"), specimen.Text("a"), specimen.List(), specimen.Object(nil)}
	for i, wrong := range specimen.WrongTypes() {
		given := specimen.RoomyType(wrong)
		other := right[i%len(right)]
		for _, c := range []two{join, meet, widen} {
			for _, args := range [][2]api.Type{{given, other}, {other, given}, {given, given}, {every, given}, {given, every}, {never, given}, {given, never}} {
				got, e := c.do(args[0], args[1])
				refused(t, c.name+" of "+short(args[0])+" and "+short(args[1]), got, e)
			}
		}
		for _, kinds := range []uint8{0, 1, 8, 16, 32, 64, 127, 128, 255} {
			got, e := lattice.Only(given, kinds)
			refused(t, "Only of "+short(wrong), got, e)
		}
		got, e := lattice.Minus(given, v[i%len(v)])
		refused(t, "Minus of "+short(wrong), got, e)
		if !specimen.UntouchedType(given, wrong) {
			t.Errorf("%s was changed", short(wrong))
		}
	}
}

// Values that aren't well shaped, beside types that are and that aren't.
func TestP13_1Values(t *testing.T) {
	wrong := specimen.MisshapenTypes()
	for i, v := range specimen.Wrong() {
		given := specimen.Roomy(v)
		for _, a := range []api.Type{never, every, laid, null, anyNumber, nums("1", "1"), texts("a"), anyText, arrays(never, 0, 0), anyArray, anyObject, wrong[i%len(wrong)]} {
			got, e := lattice.Minus(a, given)
			refused(t, "Minus from "+short(a), got, e)
		}
		if !specimen.Untouched(given, v) {
			t.Errorf("%v was changed", v)
		}
	}
}

// single is an alternative of one field that is null, and no others.
func single(name string) api.Obj { return objOf(never, []string{name}, null) }

// of is an alternative of one field.
func of(name string, field, rest api.Type) api.Obj { return objOf(rest, []string{name}, field) }

// with is a type with what others have besides; no two of them have values of one kind.
func with(all ...api.Type) api.Type {
	var out api.Type
	for _, a := range all {
		out, _ = tidy.Sum(out, a)
	}
	return out
}

func TestP13_2Examples(t *testing.T) {
	one := nums("1", "1")
	join.isBoth(t, nums("1", "3"), with(nums("7", "9"), null), with(nums("1", "9"), null))
	join.isBoth(t, texts("a"), texts("b"), texts("a", "b"))
	join.isBoth(t, arrays(one, 2, 2), arrays(null, 0, 1), arrays(with(one, null), 0, 2))
	x, y := of("k!", one, never), of("k!", nums("2", "2"), never)
	join.isBoth(t, objects(x), objects(y), objects(x, y))
	join.isBoth(t, every, null, every)
	meet.isBoth(t, nums("1", "5"), nums("3", ""), nums("3", "5"))
	meet.isBoth(t, nums("1", "2"), nums("3", "4"), never)
	meet.isBoth(t, with(anyText, one), texts("a", "b"), texts("a", "b"))
	meet.isBoth(t, arrays(anyNumber, 0, 5), arrays(nums("1", "9"), 3, -1), arrays(nums("1", "9"), 3, 5))
	meet.isBoth(t, objects(of("k!", anyNumber, every)), objects(of("l!", anyText, every)), objects(objOf(every, []string{"k!", "l!"}, anyNumber, anyText)))
	meet.isBoth(t, objects(of("k!", anyNumber, never)), objects(of("l!", anyText, every)), never)
}

// all are types of every kind, and nested ones, most of them untidy.
func all() []api.Type {
	return append(specimen.WellShapedTypes(random(1), 150), laid, arrays(laid, 0, -1), objects(objOf(laid, nil)), objects(single("b!"), single("a!"), single("a")), texts(named(17)...), nest(null, 9), objects(specimen.Wide(13, null, true, never)))
}

// Never and every on either side, and every laid out.
func TestP13_2Units(t *testing.T) {
	for _, a := range all() {
		join.isBoth(t, a, never, norm(a))
		join.isBoth(t, a, every, every)
		join.isBoth(t, a, laid, every)
		meet.isBoth(t, a, never, never)
		meet.isBoth(t, a, every, norm(a))
		if tidy.Is(a) && specimen.InLimits(commonOf(a, laid)) {
			meet.isBoth(t, a, laid, a)
		}
		join.is(t, a, a, norm(a))
	}
	meet.is(t, laid, laid, every)
	meet.isBoth(t, laid, every, every)
	meet.isBoth(t, laid, anyObject, anyObject)
	meet.isBoth(t, arrays(laid, 0, -1), arrays(null, 1, -1), arrays(null, 1, -1))
}

// rooms are pairs of types around two others, and what these have in common around what those have.
func rooms(a, b, in api.Type) [][3]api.Type {
	rest, k := nums("77", "78"), func(name string, x api.Type) api.Type { return objects(of(name, x, nums("77", "78"))) }
	out := [][3]api.Type{{k("k", a), k("k", b), k("k", in)}, {objects(objOf(a, nil)), objects(objOf(b, nil)), objects(objOf(in, nil))}, {k("k", a), objects(objOf(b, []string{"l"}, rest)), objects(objOf(commonOf(rest, b), []string{"k", "l"}, in, rest))}}
	if isNever(a) || isNever(b) {
		return out
	}
	low, most, some := arrays(in, 0, 4), arrays(in, 2, 4), k("k!", in)
	if isNever(in) {
		low, most, some = arrays(never, 0, 0), never, never
	}
	out = append(out, [3]api.Type{arrays(a, 0, -1), arrays(b, 0, 4), low}, [3]api.Type{arrays(a, 2, -1), arrays(b, 0, 4), most}, [3]api.Type{arrays(a, 0, 4), arrays(b, 2, 7), most})
	return append(out, [3]api.Type{k("k!", a), k("k!", b), some}, [3]api.Type{k("k", a), k("k!", b), some}, [3]api.Type{k("k!", a), objects(objOf(b, []string{"l"}, rest)), objects(wrapped(some, commonOf(rest, b), rest)...)})
}

// wrapped is the alternatives of a type with another rest, and one more name.
func wrapped(a api.Type, rest, field api.Type) []api.Obj {
	var out []api.Obj
	for _, o := range a.Objects {
		out = append(out, objOf(rest, []string{"k!", "l"}, o.Fields[0], field))
	}
	return out
}

// isMet holds Meet to an answer at the top and inside others, in both orders.
func isMet(t *testing.T, a, b, want api.Type) {
	t.Helper()
	meet.isBoth(t, a, b, want)
	for _, r := range rooms(a, b, want) {
		meet.isBoth(t, r[0], r[1], norm(r[2]))
	}
}

// Null, false and true, each row with each.
func TestP13_2Flags(t *testing.T) {
	flags := func(i int) api.Type { return api.Type{Null: i&1 > 0, False: i&2 > 0, True: i&4 > 0} }
	for i := range 8 {
		for k := range 8 {
			isMet(t, flags(i), flags(k), flags(i&k))
			join.isBoth(t, flags(i), flags(k), flags(i|k))
			join.isBoth(t, with(flags(i), anyText), with(flags(k), anyNumber), with(flags(i|k), anyText, anyNumber))
		}
	}
	for i, a := range []api.Type{null, {False: true}, truth, anyNumber, anyText, texts("a"), anyArray, arrays(never, 0, 0), anyObject} {
		for k, b := range []api.Type{null, {False: true}, truth, anyNumber, anyText, texts("b"), anyArray, arrays(null, 1, 1), anyObject} {
			if kinds := shape.Kinds(a) & shape.Kinds(b); kinds == 0 && i != k {
				isMet(t, a, b, never)
			}
		}
	}
}

const huge = "123456789012345678901234567890"

// Spans with one number, none or all in common, with bounds missing, and bounds far greater than an int.
func TestP13_2Spans(t *testing.T) {
	none := [2]string{"none", ""}
	for _, r := range [][3][2]string{
		{{"1", "5"}, {"5", "9"}, {"5", "5"}}, {{"1", "5"}, {"6", "9"}, none}, {{"1", "5"}, {"1", "5"}, {"1", "5"}}, {{"1", "5"}, {"2", "3"}, {"2", "3"}}, {{"1", "5"}, {"1", "3"}, {"1", "3"}}, {{"1", "5"}, {"3", "5"}, {"3", "5"}}, {{"1", "5"}, {"3", "9"}, {"3", "5"}}, {{"9", "10"}, {"10", "100"}, {"10", "10"}}, {{"-10", "-9"}, {"-9", "1"}, {"-9", "-9"}}, {{"-9", "2"}, {"-10", "10"}, {"-9", "2"}}, {{"0", "0"}, {"0", "0"}, {"0", "0"}}, {{"0", "0"}, {"1", "1"}, none},
		{{"", "5"}, {"5", ""}, {"5", "5"}}, {{"", "5"}, {"6", ""}, none}, {{"", "5"}, {"", "7"}, {"", "5"}}, {{"5", ""}, {"7", ""}, {"7", ""}}, {{"", ""}, {"", ""}, {"", ""}}, {{"", ""}, {"3", "4"}, {"3", "4"}}, {{"", ""}, {"3", ""}, {"3", ""}}, {{"", ""}, {"", "3"}, {"", "3"}}, {{"", "5"}, {"1", "9"}, {"1", "5"}}, {{"5", ""}, {"1", "9"}, {"5", "9"}}, {{"", "0"}, {"1", "9"}, none}, {{"10", ""}, {"1", "9"}, none},
		{{huge, huge + "0"}, {huge + "0", huge + "1"}, {huge + "0", huge + "0"}}, {{"-" + huge, huge}, {"-5", huge + "9"}, {"-5", huge}}, {{"-" + huge + "0", ""}, {"", "-" + huge}, {"-" + huge + "0", "-" + huge}}, {{"9223372036854775807", ""}, {"9223372036854775808", ""}, {"9223372036854775808", ""}}, {{"", "-9223372036854775809"}, {"-9223372036854775808", ""}, none}, {{"", "9223372036854775807"}, {"9223372036854775808", huge}, none},
	} {
		want := nums(r[2][0], r[2][1])
		if r[2] == none {
			want = never
		}
		isMet(t, nums(r[0][0], r[0][1]), nums(r[1][0], r[1][1]), want)
		meet.isBoth(t, with(null, nums(r[0][0], r[0][1])), with(null, truth, nums(r[1][0], r[1][1])), with(null, want))
	}
}

// Texts: any on one side, on both, on none; lists with all, some, one or none in common.
func TestP13_2Texts(t *testing.T) {
	for _, r := range [][3]api.Type{
		{anyText, anyText, anyText}, {anyText, texts("a", "b"), texts("a", "b")}, {anyText, null, never}, {texts("a"), null, never}, {texts("a", "b"), texts("a", "b"), texts("a", "b")}, {texts("a", "b"), texts("b", "c"), texts("b")}, {texts("a", "c"), texts("b", "d"), never}, {texts("a", "b", "c", "d"), texts("a", "c", "e"), texts("a", "c")}, {texts(""), texts("", "a"), texts("")}, {texts("ab"), texts("a", "b"), never},
		{texts("~", "\uFFFF", "\U00010000"), texts("\uFFFF", "\U00010000"), texts("\uFFFF", "\U00010000")}, {texts(named(16)...), anyText, texts(named(16)...)}, {texts(named(17)...), anyText, anyText}, {texts(named(17)...), texts(named(30)[13:]...), texts("00013", "00014", "00015", "00016")}, {texts(named(40)...), texts(named(40)[20:]...), anyText}, {texts(named(40)...), texts(named(60)[24:]...), texts(named(40)[24:]...)},
	} {
		isMet(t, r[0], r[1], r[2])
	}
	join.isBoth(t, texts(named(10)...), texts(named(16)[5:]...), texts(named(16)...))
	join.isBoth(t, texts(named(10)...), texts(named(17)[5:]...), anyText)
	join.isBoth(t, texts("a"), anyText, anyText)
}

// Arrays whose common part is none, that of the array without items, and neither.
func TestP13_2Arrays(t *testing.T) {
	empty, none := arrays(never, 0, 0), never
	for _, r := range [][3]api.Type{
		{empty, empty, empty}, {empty, arrays(null, 0, -1), empty}, {empty, arrays(null, 0, 3), empty}, {empty, arrays(null, 1, -1), none}, {empty, arrays(null, 1, 3), none}, {empty, anyArray, empty}, {empty, arrays(every, 2, -1), none}, {empty, null, none},
		{arrays(null, 0, -1), arrays(truth, 0, -1), empty}, {arrays(null, 0, 3), arrays(truth, 0, -1), empty}, {arrays(null, 0, 3), arrays(truth, 0, 5), empty}, {arrays(null, 1, -1), arrays(truth, 0, -1), none}, {arrays(null, 0, 9), arrays(truth, 3, 3), none}, {arrays(null, 1, 2), arrays(truth, 1, 2), none},
		{arrays(null, 0, 2), arrays(null, 3, -1), none}, {arrays(null, 0, 2), arrays(null, 3, 5), none}, {arrays(null, 1, 2), arrays(truth, 3, 5), none}, {arrays(null, 0, 3), arrays(null, 3, -1), arrays(null, 3, 3)}, {arrays(null, 0, 3), arrays(null, 3, 5), arrays(null, 3, 3)}, {arrays(null, 1, 5), arrays(null, 2, 4), arrays(null, 2, 4)}, {arrays(null, 2, 5), arrays(null, 1, 4), arrays(null, 2, 4)}, {arrays(null, 2, -1), arrays(null, 1, -1), arrays(null, 2, -1)}, {arrays(null, 0, -1), arrays(null, 0, -1), arrays(null, 0, -1)}, {arrays(null, 0, -1), arrays(null, 0, 1), arrays(null, 0, 1)}, {arrays(every, 4, -1), arrays(null, 0, 7), arrays(null, 4, 7)},
		{arrays(both, 1, -1), arrays(with(null, anyText), 0, 2), arrays(null, 1, 2)}, {arrays(null, math.MaxInt, math.MaxInt), arrays(null, 1, -1), arrays(null, math.MaxInt, math.MaxInt)}, {arrays(null, 0, math.MaxInt-1), arrays(null, math.MaxInt, -1), none}, {arrays(arrays(null, 0, -1), 1, -1), arrays(arrays(truth, 0, -1), 0, 4), arrays(empty, 1, 4)}, {arrays(arrays(null, 1, -1), 0, -1), arrays(arrays(truth, 0, -1), 0, 4), empty}, {arrays(arrays(null, 1, -1), 1, -1), arrays(arrays(truth, 0, -1), 0, 4), none},
		{nest(nums("1", "5"), 5), nest(nums("4", "9"), 5), nest(nums("4", "5"), 5)}, {nest(null, 5), nest(truth, 5), nest(empty, 4)}, {nest(null, 2), nest(null, 1), arrays(never, 0, 0)}, {arrays(objects(single("a!")), 0, 3), arrays(objects(single("b!")), 0, 2), empty},
	} {
		isMet(t, r[0], r[1], r[2])
		meet.isBoth(t, with(null, r[0]), with(r[1], anyText, null), with(null, r[2]))
	}
}

// Alternatives: names on one side only, must on one and on both, fields and rests that have nothing in common.
func TestP13_2Objects(t *testing.T) {
	o := objects
	for _, r := range [][3]api.Type{
		{o(objOf(never, nil)), o(objOf(never, nil)), o(objOf(never, nil))}, {anyObject, o(single("a!")), o(single("a!"))}, {o(objOf(never, nil)), anyObject, o(objOf(never, nil))}, {o(objOf(null, nil)), o(objOf(truth, nil)), o(objOf(never, nil))}, {o(objOf(both, nil)), o(objOf(with(truth, anyText), nil)), o(objOf(truth, nil))}, {o(objOf(null, nil)), null, never},
		{o(of("a!", null, truth)), o(of("a!", null, truth)), o(of("a!", null, truth))}, {o(of("a!", null, truth)), o(of("a", null, truth)), o(of("a!", null, truth))}, {o(of("a", null, truth)), o(of("a", null, truth)), o(of("a", null, truth))}, {o(of("a!", both, truth)), o(of("a", null, truth)), o(of("a!", null, truth))},
		{o(of("a!", null, truth)), o(of("a!", truth, truth)), never}, {o(of("a!", null, truth)), o(of("a", truth, truth)), never}, {o(of("a", null, truth)), o(of("a", truth, truth)), o(of("a", never, truth))}, {o(of("a", null, never)), o(of("a", truth, never)), o(objOf(never, nil))},
		{o(of("a!", both, truth)), o(objOf(truth, nil)), o(of("a!", truth, truth))}, {o(of("a", both, truth)), o(objOf(truth, nil)), o(objOf(truth, nil))}, {o(of("a!", null, truth)), o(objOf(truth, nil)), never}, {o(of("a", null, truth)), o(objOf(truth, nil)), o(of("a", never, truth))}, {o(of("a!", null, truth)), o(of("b", truth, null)), o(objOf(never, []string{"a!", "b"}, null, truth))}, {o(of("a!", null, truth)), o(of("b!", truth, null)), o(objOf(never, []string{"a!", "b!"}, null, truth))}, {o(of("a!", null, truth)), o(of("b!", null, null)), never}, {o(of("b!", null, truth)), o(of("a!", truth, truth)), never},
		{o(objOf(every, []string{"a", "c!"}, null, anyText)), o(objOf(every, []string{"b!", "d"}, truth, anyNumber)), o(objOf(every, []string{"a", "b!", "c!", "d"}, null, truth, anyText, anyNumber))}, {o(objOf(every, []string{"a!", "b!"}, null, every)), o(objOf(every, []string{"b!", "c!"}, truth, anyNumber)), o(objOf(every, []string{"a!", "b!", "c!"}, null, truth, anyNumber))}, {o(objOf(every, []string{"a!", "b!", "c!"}, null, null, null)), o(objOf(every, []string{"a!", "b!", "c!"}, null, null, truth)), never},
		{o(of("k!", o(of("l!", nums("1", "5"), every)), every)), o(of("k", o(of("m!", null, every)), every)), o(of("k!", o(objOf(every, []string{"l!", "m!"}, nums("1", "5"), null)), every))}, {o(of("k!", o(of("l!", null, every)), every)), o(of("k", o(of("l!", truth, every)), every)), never}, {o(of("k", o(of("l!", null, every)), every)), o(of("k", o(of("l!", truth, every)), every)), o(of("k", never, every))},
	} {
		isMet(t, r[0], r[1], r[2])
		meet.isBoth(t, with(r[0], truth, texts("a")), with(anyNumber, texts("a"), r[1]), with(r[2], texts("a")))
	}
}

// Several alternatives on both sides: each of the first with each of the second, and none where two have nothing in common.
func TestP13_2Alternatives(t *testing.T) {
	a, b, c := of("a!", null, every), of("b!", null, every), of("c!", null, every)
	ab, ac, bc := objOf(every, []string{"a!", "b!"}, null, null), objOf(every, []string{"a!", "c!"}, null, null), objOf(every, []string{"b!", "c!"}, null, null)
	kind := func(name string) api.Obj { return objOf(never, []string{"kind!", "of!"}, texts(name), every) }
	for _, r := range [][3]api.Type{
		{objects(a, b), objects(c), objects(ac, bc)}, {objects(a, b), objects(a, b), objects(a, b)}, {objects(a, b), objects(a, c), objects(a, bc)}, {objects(a, b, c), objects(a, b, c), objects(a, b, c)}, {objects(a, b), objects(b, c), objects(ac, b)}, {objects(ab, c), objects(a, bc), objects(ab, ac, bc)},
		{objects(kind("x"), kind("y"), kind("z")), objects(kind("y")), objects(kind("y"))}, {objects(kind("x"), kind("y")), objects(kind("y"), kind("z"), kind("x")), objects(kind("x"), kind("y"))}, {objects(kind("x")), objects(kind("y"), kind("z")), never}, {objects(kind("x"), single("b!")), objects(objOf(every, []string{"of"}, anyNumber)), objects(single("b!"), objOf(never, []string{"kind!", "of!"}, texts("x"), anyNumber))},
		{objects(of("a!", nums("1", "5"), never), of("a!", nums("8", "9"), never)), objects(of("a!", nums("3", "8"), every)), objects(of("a!", nums("3", "5"), never), of("a!", nums("8", "8"), never))},
	} {
		pick := random(2)
		for range 5 {
			meet.isBoth(t, specimen.Shuffled(r[0], pick), specimen.Shuffled(r[1], pick), r[2])
		}
		isMet(t, r[0], r[1], r[2])
	}
	var first, second []api.Obj
	point := func(x, y api.Type) api.Obj { return objOf(never, []string{"x!", "y!"}, x, y) }
	for _, n := range []string{"0", "1", "2"} {
		first, second = append(first, point(nums(n, n), anyNumber)), append(second, point(anyNumber, nums(n, n)))
	}
	x := nums("0", "0")
	isMet(t, objects(first...), objects(second...), objects(point(x, x), point(x, nums("1", "1")), point(x, nums("2", "2")), point(nums("1", "2"), nums("0", "2")))) // nine, of which six become one
}

// More names, alternatives, height and parts than a normal form has: ahead of it, or only behind the common part.
func TestP13_2Limits(t *testing.T) {
	row := func(first string, many int, must bool) api.Obj {
		o := specimen.Wide(many, null, must, every)
		for i := range o.Names {
			o.Names[i] = first + o.Names[i]
		}
		return o
	}
	meet.isBoth(t, objects(row("a", 6, true)), objects(row("b", 6, true)), objects(objOf(every, append(marked(row("a", 6, true)), marked(row("b", 6, true))...), slices.Repeat([]api.Type{null}, 12)...)))
	meet.isBoth(t, objects(row("a", 12, true)), objects(row("b", 12, true)), objects(row("a", 12, true)))
	meet.isBoth(t, objects(row("a", 20, true)), objects(row("a", 5, false)), objects(row("a", 12, true)))
	meet.isBoth(t, nest(null, 9), nest(null, 9), nest(every, 8))
	meet.isBoth(t, nest(null, 8), nest(every, 8), nest(null, 8))
	meet.isBoth(t, nest(every, 8), nest(null, 9), nest(every, 8))
	join.isBoth(t, nest(null, 9), nest(truth, 8), nest(every, 8))
	deep := func(in api.Type) api.Type {
		return nest(objects(specimen.Wide(12, objects(specimen.Wide(12, in, true, never)), true, never)), 2)
	}
	join.check(t, deep(null), deep(truth))
	meet.check(t, deep(both), deep(truth))
	meet.check(t, deep(nest(null, 1)), deep(every))
}

// marked are the names of an alternative, each with the mark of one that must be there.
func marked(o api.Obj) []string {
	out := slices.Clone(o.Names)
	for i := range out {
		out[i] += "!"
	}
	return out
}

// Types that are drawn: any two of some, types beside those that differ from them in one thing, and crowded ones.
func TestP13_2Drawn(t *testing.T) {
	t.Parallel()
	pick := random(3)
	some := specimen.WellShapedTypes(pick, 10)
	for _, a := range some {
		for _, b := range some {
			join.check(t, a, b)
			meet.check(t, a, b)
		}
	}
	for range 400 {
		a := specimen.DrawnType(pick, 3)
		b := specimen.NudgedType(a, pick)
		join.check(t, a, b)
		meet.check(t, a, b)
		meet.check(t, b, a)
	}
	for range 150 {
		a, b := specimen.CrowdedType(pick, 2), specimen.CrowdedType(pick, 2)
		join.check(t, a, b)
		meet.check(t, a, b)
	}
}
