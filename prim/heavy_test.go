package prim_test

import (
	"slices"
	"strings"
	"testing"

	"hallmark/api"
	"hallmark/value"
)

// most is what a value may weigh.
const most = 1048576

// long is a text that weighs so much.
func long(weight int) api.Value { return text(strings.Repeat("x", weight-1)) }

// nines is a number that weighs so much, just below one that weighs more.
func nines(weight int) api.Value { return num(strings.Repeat("9", weight-1)) }

func times(v api.Value, many int) []api.Value { return slices.Repeat([]api.Value{v}, many) }

// below is a number's opposite.
func below(v api.Value) api.Value { return num("-" + v.Num) }

func field(key string, item api.Value) api.Value { return object([]string{key}, item) }

// ask is a primitive with its input and its arguments.
type ask struct {
	name string
	in   api.Value
	args []api.Value
}

func asking(name string, in api.Value, args ...api.Value) ask { return ask{name, in, args} }

func (a ask) answer() answer { return do(a.name, a.in, a.args...) }

// checkMost: what is asked is just not too heavy; with more it is.
func checkMost(t *testing.T, made func(more int) ask) {
	t.Helper()
	a := made(0)
	if got := a.answer(); !got.Ok || value.Weight(got.V) != most || !formedOf(got.V) {
		t.Errorf("%s of what is just not too heavy: %v, it weighs %d", a.name, got.Ok, value.Weight(got.V))
	}
	for _, more := range []int{1, 2, 1000} {
		a = made(more)
		if got := a.answer(); !alike(got, answer{}) {
			t.Errorf("%s of what is too heavy by %d: %v, it weighs %d; the fault is %q", a.name, more, got.Ok, value.Weight(got.V), got.Fault.Text)
		}
	}
}

func TestP21_2HeavyJoin(t *testing.T) {
	for _, made := range []func(more int) ask{
		func(more int) ask { return asking("join", list(long(500000), long(548572+more)), text("12345")) },
		func(more int) ask { return asking("join", list(long(500000), long(548572)), long(6+more)) },
		func(more int) ask {
			return asking("join", list(append(times(api.Value{}, 1025), long(1+more))...), long(1024))
		},
		func(more int) ask {
			return asking("join", list(append(times(kind(api.True), 1025), long(1+more))...), long(1020))
		},
		func(more int) ask { return asking("join", list(long(most+more)), long(5000)) },
		func(more int) ask { return asking("join", list(nines(most+more), text("")), text("")) },
		func(more int) ask { return asking("join", list(below(nines(most-1+more)), api.Value{}), text("")) },
		func(more int) ask { return asking("join", list(times(api.Value{}, most+more)...), text("a")) },
	} {
		checkMost(t, made)
	}
}

func TestP21_2HeavyPlain(t *testing.T) {
	for _, made := range []func(more int) ask{
		func(more int) ask { return asking("tostring", long(most+more)) },
		func(more int) ask { return asking("tostring", nines(most+more)) },
		func(more int) ask { return asking("tostring", below(nines(most-1+more))) },
		func(more int) ask {
			return asking("tostring", list(text(strings.Repeat("\x01", 174761)), long(3+more)))
		},
		func(more int) ask { return asking("tojson", long(most-2+more)) },
		func(more int) ask { return asking("tojson", nines(most+more)) },
		func(more int) ask {
			return asking("tojson", text(strings.Repeat("\x7f", 174762)+strings.Repeat("a", 1+more)))
		},
		func(more int) ask { return asking("tojson", field(strings.Repeat("\"", 524284), long(1+more))) },
		func(more int) ask {
			return asking("fromjson", text(`"`+strings.Repeat("é", 524287)+strings.Repeat("a", 1+more)+`"`))
		},
		func(more int) ask { return asking("fromjson", text(nines(most+more).Num)) },
		func(more int) ask { return asking("fromjson", text("["+strings.Repeat("[],", most-2+more)+"[]]")) },
		func(more int) ask { return asking("tonumber", text(below(nines(most+more)).Num)) },
		func(more int) ask { return asking("tonumber", nines(most+more)) },
		func(more int) ask { return asking("length", below(nines(most+more))) },
		func(more int) ask { return asking("abs", below(nines(most+more))) },
	} {
		checkMost(t, made)
	}
}

func TestP21_2HeavyTexts(t *testing.T) {
	for _, made := range []func(more int) ask{
		func(more int) ask { return asking("ascii_upcase", long(most+more)) },
		func(more int) ask { return asking("ascii_downcase", long(most+more)) },
		func(more int) ask { return asking("reverse", long(most+more)) },
		func(more int) ask { return asking("ltrimstr", text("ab"+long(most+more).Text), text("ab")) },
		func(more int) ask { return asking("ltrimstr", long(most+more), text("ab")) },
		func(more int) ask { return asking("rtrimstr", text(long(most+more).Text+"ab"), text("ab")) },
		func(more int) ask { return asking("rtrimstr", nines(most+more), text("9")) },
		func(more int) ask {
			return asking("explode", text(strings.Repeat("a", 349525-more)+strings.Repeat("é", more)))
		},
		func(more int) ask {
			return asking("implode", list(append(times(num("128512"), 262143), times(num("97"), 3+more)...)...))
		},
		func(more int) ask { return asking("split", text(strings.Repeat(",", most-2+more)), text(",")) },
		func(more int) ask {
			return asking("split", text(strings.Repeat("a", 524286-more)+strings.Repeat("é", 1+more)), text(""))
		},
	} {
		checkMost(t, made)
	}
}

func TestP21_2HeavyArrays(t *testing.T) {
	var steps []api.Value
	for i := range 524287 {
		steps = append(steps, whole(i))
	}
	for _, made := range []func(more int) ask{
		func(more int) ask { return asking("keys", field(strings.Repeat("x", most-2+more), api.Value{})) },
		func(more int) ask { return asking("reverse", list(long(most-1+more))) },
		func(more int) ask { return asking("sort", list(times(api.Value{}, most-1+more)...)) },
		func(more int) ask { return asking("unique", list(long(most-1+more), long(most-1+more))) },
		func(more int) ask { return asking("min", list(long(most+more))) },
		func(more int) ask { return asking("max", list(long(most+more))) },
		func(more int) ask { return asking("_sort_by", list(long(most-1+more)), list()) },
		func(more int) ask { return asking("_unique_by", list(long(most-1+more), num("1")), list()) },
		func(more int) ask { return asking("_group_by", list(long(most-2+more)), list()) },
		func(more int) ask {
			return asking("_group_by", list(append(times(kind(api.True), 524286), long(2+more))...), list(steps...))
		},
		func(more int) ask {
			return asking("_min_by", list(num("1"), long(most+more)), list(num("1"), num("0")))
		},
		func(more int) ask { return asking("_max_by", list(num("1"), long(most+more)), list()) },
		func(more int) ask { return asking("flatten", list(list(long(most-1+more)), list())) },
		func(more int) ask { return asking("toarray", long(most-1+more)) },
		func(more int) ask { return asking("toarray", list(long(most-1+more))) },
		func(more int) ask {
			first := list(append(times(api.Value{}, 1024), long(1+more))...)
			return asking("transpose", list(append(times(list(), 1021), first)...))
		},
		func(more int) ask { return asking("getpath", field("a", long(most+more)), list(text("a"))) },
		func(more int) ask { return asking("setpath", api.Value{}, list(num("65536")), long(most-65537+more)) },
		func(more int) ask {
			return asking("setpath", api.Value{}, list(times(text("k"), 1000)...), long(most-3000+more))
		},
		func(more int) ask { return asking("setpath", num("1"), list(), long(most+more)) },
		func(more int) ask { return asking("delpaths", list(long(most-1+more), num("1")), list(list(num("1")))) },
	} {
		checkMost(t, made)
	}
}

// At which places something stands: those of most digits weigh most, so a few that are left out make up for it.
func TestP21_2HeavyIndices(t *testing.T) {
	left := map[int]int{0: 5000, 1: 500, 2: 50, 1000: 5}
	texts := func(more int) string {
		s := strings.Repeat("a", 165670)
		return s[:left[more]] + "b" + s[left[more]+1:]
	}
	items := func(more int) api.Value {
		out := list(times(num("1"), 165670)...)
		out.Items[left[more]] = num("2")
		return out
	}
	for _, made := range []func(more int) ask{
		func(more int) ask { return asking("indices", text(texts(more)), text("a")) },
		func(more int) ask { return asking("indices", items(more), num("1")) },
		func(more int) ask { return asking("indices", items(more), list(num("1"))) },
	} {
		checkMost(t, made)
	}
	if got := do("keys", list(make([]api.Value, 165669)...)); value.Weight(got.V) != most-2 {
		t.Errorf("keys of what has just not too many items: %v, they weigh %d", got.Ok, value.Weight(got.V))
	}
	for _, many := range []int{165670, 165671, 1000000} {
		checkNeither(t, "keys", list(make([]api.Value, many)...))
	}
}

func TestP21_3HeavyAdd(t *testing.T) {
	for _, made := range []func(more int) ask{
		func(more int) ask { return asking("add", list(long(500000), long(548577+more))) },
		func(more int) ask { return asking("add", list(api.Value{}, long(most+more), api.Value{})) },
		func(more int) ask { return asking("add", list(list(long(500000)), list(long(548575+more)))) },
		func(more int) ask { return asking("add", list(times(list(kind(api.True)), most-1+more)...)) },
		func(more int) ask { return asking("add", list(nines(most-1+more), nines(most-1+more))) },
		func(more int) ask { return asking("add", list(below(nines(most+more)))) },
		func(more int) ask {
			return asking("add", list(field("a", long(500000)), field("b", long(548571+more))))
		},
	} {
		checkMost(t, made)
	}
}

// A sum that is too heavy on its way is neither, whatever comes behind it; behind a fault there is no sum.
func TestP21_3HeavyOnItsWay(t *testing.T) {
	n, one, less := nines(most), num("1"), num("-1")
	a, b := field("a", long(600000)), field("b", long(600000))
	lightly := field("a", api.Value{})
	for i, row := range []struct {
		items []api.Value
		want  answer
	}{
		{[]api.Value{n, less, one}, is(n)}, {[]api.Value{n, one, less}, answer{}}, {[]api.Value{one, n, less}, answer{}}, {[]api.Value{less, n, one}, is(n)}, {[]api.Value{n, below(n), one}, is(one)}, {[]api.Value{below(n), one, less}, is(below(n))}, {[]api.Value{below(n), less, one}, answer{}}, {[]api.Value{less, {}, below(n), one}, answer{}},
		{[]api.Value{n, n, below(n), below(n)}, answer{}}, {[]api.Value{n, below(n), n, below(n)}, is(num("0"))}, {[]api.Value{nines(most + 1), below(nines(most + 1))}, answer{}}, {[]api.Value{{}, nines(most + 1), below(nines(most + 1))}, answer{}}, {[]api.Value{one, one, one, n, num("-4")}, answer{}},
		{[]api.Value{n, one, text("x")}, answer{}}, {[]api.Value{n, text("x"), one}, fails("add")}, {[]api.Value{long(most + 1), one}, answer{}}, {[]api.Value{one, long(most + 1)}, fails("add")}, {[]api.Value{kind(api.True), long(most + 1)}, fails("add")}, {[]api.Value{kind(api.True), kind(api.True), long(most + 1)}, fails("add")}, {[]api.Value{{}, long(most), {}, one, long(most)}, fails("add")}, {[]api.Value{long(most), text("x"), one}, answer{}}, {[]api.Value{list(long(most)), one}, answer{}},
		{[]api.Value{a, b, lightly}, answer{}}, {[]api.Value{a, lightly, b}, is(object([]string{"a", "b"}, api.Value{}, long(600000)))}, {[]api.Value{lightly, b, a}, answer{}}, {[]api.Value{a, a, a, lightly}, is(lightly)}, {[]api.Value{a, b, one}, answer{}}, {[]api.Value{a, one, b}, fails("add")}, {[]api.Value{b, a}, answer{}}, {[]api.Value{a, field("b", long(448571)), field("a", long(600001))}, answer{}},
	} {
		if got := do("add", list(row.items...)); !alike(got, row.want) || !alike(row.want, doOf("add", list(row.items...), nil)) {
			t.Errorf("row %d: %v, it weighs %d; the fault is %q", i, got.Ok, value.Weight(got.V), got.Fault.Text)
		}
	}
}

// Rows of what is near the edge, added up in many orders.
func TestP21_3HeavyDrawn(t *testing.T) {
	pick := random(213)
	numbers := []api.Value{nines(most), below(nines(most)), num("1" + strings.Repeat("0", most-2)), num("1"), num("-1"), {}, num("-" + "1" + strings.Repeat("0", most-1)), num("5"), text("x")}
	var objects []api.Value
	for _, key := range []string{"a", "b", "ab"} {
		objects = append(objects, field(key, api.Value{}), field(key, long(524000)), field(key, long(524570)), field(key, long(most-3)))
	}
	for range 100 {
		for _, of := range [][]api.Value{numbers, append(objects, api.Value{}, num("1"), object(nil))} {
			v := list()
			for range pick(6) {
				v.Items = append(v.Items, of[pick(len(of)-pick(2)*2)])
			}
			if got, want := do("add", v), doOf("add", v, nil); !alike(got, want) {
				t.Errorf("%v, it weighs %d; the fault is %q; want %v, %d, %q", got.Ok, value.Weight(got.V), got.Fault.Text, want.Ok, value.Weight(want.V), want.Fault.Text)
			}
		}
	}
}

// Long rows of numbers that go up and down just below the edge, and now and then beyond it.
func TestP21_3HeavyWalks(t *testing.T) {
	n := nines(most)
	few := func(l ...string) []api.Value {
		var out []api.Value
		for _, s := range l {
			one := num(strings.TrimPrefix(s, "+"))
			switch s {
			case "n":
				one = n
			case "-n":
				one = below(n)
			}
			out = append(out, one)
		}
		return out
	}
	for _, row := range []struct {
		items string
		ok    bool
	}{
		{"-5 5 n 1", false}, {"-5 5 -n 0", true}, {"5 -5 -n -1", false}, {"5 -5 n 0", true}, {"-5 5 0 0 n 1 -1 0", false}, {"0 0 -5 5 n 1 -1 0", false}, {"5 -5 0 0 -n -1 1 0", false}, {"0 0 5 -5 -n -1 1 0", false}, {"-5 5 0 0 -n 0 0 0", true}, {"0 0 -5 5 -n 0 0 0", true}, {"5 -5 0 0 n 0 0 0", true}, {"0 0 5 -5 n 0 0 0", true},
		{"n -3 2 1 -7 7 0", true}, {"n -3 2 2 -7 7 0", false}, {"n -3 2 1 -7 8 -9", false}, {"-n 3 -2 -1 7 -7 0", true}, {"-n 3 -2 -2 7 -7 0", false}, {"-1 -1 n 1 1 1 -5", false}, {"-1 -1 n 1 1 -1 1", true}, {"n -n -n n n -n 4", true}, {"n -n -n -1 1 n n", false},
	} {
		v := list(few(strings.Fields(row.items)...)...)
		if got := do("add", v); got.Ok != row.ok || !alike(got, doOf("add", v, nil)) {
			t.Errorf("%s: %v", row.items, got.Ok)
		}
	}
	pick := random(222)
	for range 60 {
		v := list(few([]string{"n", "-n"}[pick(2)])...)
		for range 4 + pick(9) {
			v.Items = append(v.Items, whole(pick(9)-4))
		}
		from := pick(4)
		v.Items[0], v.Items[from] = v.Items[from], v.Items[0]
		if got, want := do("add", v), doOf("add", v, nil); !alike(got, want) {
			t.Errorf("%s, %d more: %v, want %v", short(v.Items[from].Num[:3]), len(v.Items), got.Ok, want.Ok)
		}
	}
}

// What is handed in may be heavier than what is made may.
func TestP21_2LightOfHeavy(t *testing.T) {
	heavy, nulls := long(most+5), list(make([]api.Value, most+5)...)
	for _, row := range []struct {
		ask
		want string
	}{
		{asking("length", heavy), "1048580"}, {asking("length", nulls), "1048581"}, {asking("length", field("a", heavy)), "1"}, {asking("utf8bytelength", heavy), "1048580"}, {asking("not", heavy), "false"}, {asking("type", nulls), `"array"`}, {asking("keys", field("a", heavy)), `["a"]`}, {asking("has", nulls, num("1048580")), "true"}, {asking("has", object(nil), heavy), "false"},
		{asking("contains", heavy, heavy), "true"}, {asking("contains", text("a"), heavy), "false"}, {asking("contains", nulls, nulls), "true"}, {asking("startswith", heavy, long(most)), "true"}, {asking("endswith", text(""), heavy), "false"}, {asking("ltrimstr", heavy, long(most)), `"xxxxx"`}, {asking("rtrimstr", heavy, long(most)), `"xxxxx"`}, {asking("split", heavy, long(most+4)), `["","x"]`}, {asking("join", list(), heavy), `""`}, {asking("indices", heavy, text("y")), "[]"}, {asking("indices", api.Value{}, heavy), "null"},
		{asking("fromjson", text(strings.Repeat(" ", most)+"[]")), "[]"}, {asking("unique", nulls), "[null]"}, {asking("min", nulls), "null"}, {asking("_max_by", list(num("1"), heavy), list(num("2"), num("1"))), "1"}, {asking("_unique_by", list(num("1"), heavy), list()), "[1]"}, {asking("_sort_by", list(num("1"), num("2")), list(heavy, num("1"))), "[2,1]"}, {asking("_sort_by", list(num("1"), num("2")), nulls), "[1,2]"},
		{asking("add", nulls), "null"}, {asking("add", list(nines(700000), below(nines(700000)), num("3"))), "3"}, {asking("flatten", list(times(list(), most)...)), "[]"}, {asking("transpose", list(times(list(), most)...)), "[]"}, {asking("getpath", list(num("1"), heavy), list(num("0"))), "1"}, {asking("setpath", heavy, list(), num("1")), "1"}, {asking("setpath", field("a", heavy), list(text("a")), num("1")), `{"a":1}`}, {asking("delpaths", heavy, list(list())), "null"}, {asking("delpaths", list(num("1"), heavy), list(list(num("1")))), "[1]"},
		{asking("keys", heavy), "!keys"}, {asking("length", kind(api.True)), "!length"}, {asking("tonumber", heavy), "!tonumber"}, {asking("tonumber", nulls), "!tonumber"}, {asking("fromjson", heavy), "!fromjson"}, {asking("fromjson", nulls), "!fromjson"}, {asking("abs", heavy), "!abs"}, {asking("explode", nulls), "!explode"}, {asking("implode", list(append(times(num("97"), most), num("-1"))...)), "!implode"}, {asking("implode", heavy), "!implode"}, {asking("has", heavy, heavy), "!has"}, {asking("contains", heavy, nulls), "!contains"}, {asking("split", heavy, num("1")), "!split"}, {asking("join", list(heavy, heavy, list()), text("")), "!join"}, {asking("join", list(append(slices.Clone(nulls.Items), object(nil))...), heavy), "!join"}, {asking("join", nulls, num("1")), "!join"},
		{asking("indices", heavy, num("1")), "!indices"}, {asking("sort", heavy), "!sort"}, {asking("_group_by", nulls, heavy), "!group_by"}, {asking("add", heavy), "!add"}, {asking("flatten", heavy), "!flatten"}, {asking("transpose", nulls), "!transpose"}, {asking("transpose", list(append(times(nulls, 3), num("1"))...)), "!transpose"}, {asking("getpath", nulls, list(text("a"))), "!getpath"}, {asking("setpath", nulls, list(text("a")), heavy), "!setpath"}, {asking("setpath", num("1"), nulls, heavy), "!setpath"}, {asking("delpaths", nulls, list(list(text("a")))), "!delpaths"}, {asking("delpaths", nulls, nulls), "!delpaths"},
	} {
		if got := row.answer(); got.Told() != row.want {
			t.Errorf("%s: %s, want %s", row.name, short(got.Told()), row.want)
		}
	}
}

// What would be far too heavy isn't made: there would be no room for it.
func TestP21_2NotMade(t *testing.T) {
	const many = 1000000
	nulls := list(make([]api.Value, many)...)
	for _, a := range []ask{
		asking("transpose", list(append(times(list(), many), nulls)...)),
		asking("transpose", list(append([]api.Value{nulls}, times(list(), many)...)...)),
		asking("transpose", list(times(nulls, 20)...)),
		asking("join", nulls, long(many)),
		asking("join", list(times(long(many), 200)...), text("")),
		asking("join", list(times(nines(many), 100)...), text("")),
		asking("add", list(times(long(many), 20)...)),
		asking("add", list(times(list(nulls), 20)...)),
	} {
		checkNeither(t, a.name, a.in, a.args...)
	}
}
