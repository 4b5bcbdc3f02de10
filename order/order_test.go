package order_test

import (
	"slices"
	"strings"
	"sync"
	"testing"

	"hallmark/api"
	"hallmark/order"
	"hallmark/specimen"
	"hallmark/value"
)

// call is one of the package's calls of two lists, with what the words say of it; what takes one list takes the first.
type call struct {
	name string
	do   func(a, b []api.Value) (api.Value, api.Errno)
	code func(a, b []api.Value) api.Errno // by the words
	want func(a, b []api.Value) api.Value // by the words, where nothing is refused
	zero api.Value
}

// refusal is the first error that stands: what isn't well shaped goes ahead of what is out of range.
func refusal(formed, within bool) api.Errno {
	if !formed {
		return api.ErrShape
	}
	if !within {
		return api.ErrRange
	}
	return api.OK
}

func alone(a, _ []api.Value) api.Errno { return refusal(formedOf(a...), true) }

func keyed(a, b []api.Value) api.Errno {
	return refusal(formedOf(a...) && formedOf(b...), len(a) == len(b))
}

func rising(a, b []api.Value) api.Errno {
	return refusal(formedOf(a...) && formedOf(b...), risesOf(a) && risesOf(b))
}

func searched(a, b []api.Value) api.Errno {
	return refusal(formedOf(a...) && formedOf(first(b)), risesOf(a))
}

// listing is a call that answers a list.
func listing(name string, do func(a, b []api.Value) ([]api.Value, api.Errno), code func(a, b []api.Value) api.Errno, want func(a, b []api.Value) []api.Value) call {
	told := func(a, b []api.Value) (api.Value, api.Errno) {
		got, e := do(a, b)
		return list(got...), e
	}
	return call{name, told, code, func(a, b []api.Value) api.Value { return list(want(a, b)...) }, list()}
}

// placing is a call that answers a place.
func placing(name string, do func(keys []api.Value) (int, api.Errno), want func(keys []api.Value) int) call {
	told := func(a, _ []api.Value) (api.Value, api.Errno) {
		at, e := do(a)
		return whole(at), e
	}
	return call{name, told, alone, func(a, _ []api.Value) api.Value { return whole(want(a)) }, whole(0)}
}

var (
	sorting  = listing("Sort", func(a, _ []api.Value) ([]api.Value, api.Errno) { return order.Sort(a) }, alone, func(a, _ []api.Value) []api.Value { return sortByOf(a, a) })
	sortBy   = listing("SortBy", order.SortBy, keyed, sortByOf)
	unique   = listing("Unique", order.Unique, keyed, uniqueOf)
	merge    = listing("Merge", order.Merge, rising, func(a, b []api.Value) []api.Value { return sortByOf(slices.Concat(a, b), slices.Concat(a, b)) })
	least    = placing("Least", order.Least, leastOf)
	greatest = placing("Greatest", order.Greatest, greatestOf)

	group = call{"Group", func(a, b []api.Value) (api.Value, api.Errno) {
		got, e := order.Group(a, b)
		return lists(got), e
	}, keyed, func(a, b []api.Value) api.Value { return lists(groupOf(a, b)) }, list()}

	search = call{"Search", func(a, b []api.Value) (api.Value, api.Errno) {
		at, there, e := order.Search(a, first(b))
		return found(at, there), e
	}, searched, func(a, b []api.Value) api.Value { return found(searchOf(a, first(b))) }, found(0, false)}
)

func allCalls() []call {
	return []call{sorting, sortBy, group, unique, least, greatest, merge, search}
}

func byKeys() []call { return []call{sortBy, group, unique} }

// words is what the words say that a call answers: beside an error zero.
func (c call) words(a, b []api.Value) (api.Value, api.Errno) {
	if e := c.code(a, b); e != api.OK {
		return c.zero, e
	}
	return c.want(a, b), api.OK
}

// check holds a call to the words, and to the rules of memory.
func (c call) check(t *testing.T, a, b []api.Value) {
	t.Helper()
	x, y := specimen.Roomy(list(a...)), specimen.Roomy(list(b...))
	want, code := c.words(a, b)
	got, e := c.do(x.Items, y.Items)
	if e != code || !specimen.Alike(got, want) {
		t.Errorf("%s(%v, %v) = %v, %d, want %v, %d", c.name, a, b, got, e, want, code)
	}
	if !specimen.Untouched(x, list(a...)) || !specimen.Untouched(y, list(b...)) {
		t.Errorf("%s(%v, %v) changed its arguments: %v, %v", c.name, a, b, x, y)
	}
	if !specimen.Own(got, x, y) {
		t.Errorf("%s(%v, %v): the memory of %v isn't its own", c.name, a, b, got)
	}
}

func checkAll(t *testing.T, a, b []api.Value) {
	t.Helper()
	for _, c := range allCalls() {
		c.check(t, a, b)
	}
}

// checkIs holds a call to what is written out.
func (c call) checkIs(t *testing.T, a, b []api.Value, want api.Value, code api.Errno) {
	t.Helper()
	if got, e := c.do(a, b); e != code || !specimen.Alike(got, want) {
		t.Errorf("%s(%v, %v) = %v, %d, want %v, %d", c.name, a, b, got, e, want, code)
	}
	c.check(t, a, b)
}

// refuses holds calls to an error, and to zero beside it.
func refuses(t *testing.T, a, b []api.Value, code api.Errno, calls ...call) {
	t.Helper()
	for _, c := range calls {
		if got, e := c.do(a, b); e != code || !specimen.Alike(got, c.zero) {
			t.Errorf("%s(%v, %v) = %v, %d, want the error %d", c.name, a, b, got, e, code)
		}
	}
}

func TestP7_1Examples(t *testing.T) {
	xyz := texts("x", "y", "z")
	refuses(t, xyz, wholes(2, 1), api.ErrRange, byKeys()...)
	refuses(t, []api.Value{text("x"), kind(9), text("z")}, wholes(2, 1, 2), api.ErrShape, byKeys()...)
	refuses(t, xyz, []api.Value{whole(2), whole(1), kind(9)}, api.ErrShape, byKeys()...)
	refuses(t, wholes(2, 1), nil, api.ErrRange, merge, search)
}

// Each value that isn't well shaped, alone, first, in the middle and last, in the list and among the keys.
func TestP7_1Shape(t *testing.T) {
	x, y := whole(1), whole(2)
	for _, v := range specimen.Wrong() {
		for _, l := range [][]api.Value{{v}, {v, x, y}, {x, v, y}, {x, y, v}, {v, v, v}} {
			right := wholes(1, 2, 3)[:len(l)]
			refuses(t, l, right, api.ErrShape, allCalls()...)
			refuses(t, right, l, api.ErrShape, byKeys()...)
			refuses(t, right, l, api.ErrShape, merge)
			refuses(t, l, l, api.ErrShape, allCalls()...)
		}
		refuses(t, wholes(1, 2), []api.Value{v}, api.ErrShape, search)
		refuses(t, nil, []api.Value{v}, api.ErrShape, search, merge, sortBy, group, unique)
	}
}

// What isn't well shaped is told ahead of numbers that differ, and of lists that don't rise.
func TestP7_1ShapeFirst(t *testing.T) {
	for _, v := range specimen.Misshapen() {
		for _, l := range [][]api.Value{{v, whole(3), whole(1)}, {whole(3), v, whole(1)}, {whole(3), whole(1), v}} {
			for _, other := range [][]api.Value{nil, wholes(1), wholes(2, 1), wholes(3, 2, 1, 0)} {
				refuses(t, l, other, api.ErrShape, byKeys()...)
				refuses(t, other, l, api.ErrShape, byKeys()...)
				refuses(t, l, other, api.ErrShape, merge, search)
				refuses(t, other, l, api.ErrShape, merge)
			}
		}
		refuses(t, wholes(2, 1), []api.Value{v}, api.ErrShape, search)
	}
}

// Of a key behind the list's end, and of a value behind that of the keys, the shape counts as well.
func TestP7_1ManyKeys(t *testing.T) {
	for n := range 5 {
		for m := range 5 {
			l, keys := numbered(n), numbered(m)
			for _, c := range byKeys() {
				c.check(t, l, keys)
				if n != m {
					refuses(t, l, keys, api.ErrRange, c)
				}
			}
			bad := append(slices.Clone(l), kind(7))
			refuses(t, bad, keys, api.ErrShape, byKeys()...)
			refuses(t, keys, bad, api.ErrShape, byKeys()...)
		}
	}
}

func TestP7_1Rises(t *testing.T) {
	up := wholes(1, 2, 2, 3)
	for _, down := range [][]api.Value{wholes(2, 1), wholes(1, 2, 1), wholes(2, 1, 2), wholes(1, 2, 3, 4, 3), {text(""), whole(1)}, {object(nil), list()}, {list(whole(2)), list(whole(1), whole(5))}, texts("a", "Z"), texts("\U00010000", "\uFFFF"), wholes(9, 10, -1), wholes(10, 9)} {
		refuses(t, down, up, api.ErrRange, merge, search)
		refuses(t, up, down, api.ErrRange, merge)
		refuses(t, down, down, api.ErrRange, merge, search)
		refuses(t, down, nil, api.ErrRange, merge, search)
		refuses(t, nil, down, api.ErrRange, merge)
	}
	for _, l := range [][]api.Value{nil, {}, wholes(1), wholes(1, 1), ofAllKinds()} {
		merge.checkIs(t, l, nil, list(l...), api.OK)
		merge.checkIs(t, nil, l, list(l...), api.OK)
		search.check(t, l, l)
	}
}

func TestP7_2Examples(t *testing.T) {
	null, no, yes := kind(api.Null), kind(api.False), kind(api.True)
	sorting.checkIs(t, []api.Value{yes, null, text("b"), text("a"), whole(10), whole(9), list(), object(nil), no}, nil,
		list(null, no, yes, whole(9), whole(10), text("a"), text("b"), list(), object(nil)), api.OK)
	a, b := object([]string{"a"}, whole(2)), object([]string{"b"}, whole(1))
	sorting.checkIs(t, []api.Value{list(whole(2)), list(whole(1), whole(5)), b, a}, nil,
		list(list(whole(1), whole(5)), list(whole(2)), a, b), api.OK)
	sortBy.checkIs(t, texts("x", "y", "z"), wholes(2, 1, 2), list(texts("y", "x", "z")...), api.OK)
}

func TestP7_2AllKinds(t *testing.T) {
	up := ofAllKinds()
	for i := range up[1:] {
		if value.Cmp(up[i], up[i+1]) >= 0 {
			t.Fatalf("%v, %v", up[i], up[i+1])
		}
	}
	down := slices.Clone(up)
	slices.Reverse(down)
	sorting.checkIs(t, up, nil, list(up...), api.OK)
	sorting.checkIs(t, down, nil, list(up...), api.OK)
	for seed := range int64(50) {
		sorting.checkIs(t, shuffled(up, seed), nil, list(up...), api.OK)
	}
}

// All orders of lists of up to seven keys, of which some are the same.
func TestP7_2P7_3P7_4Orders(t *testing.T) {
	for _, keys := range [][]api.Value{nil, wholes(1), wholes(1, 2), wholes(1, 1), wholes(1, 2, 3), wholes(1, 1, 2), wholes(1, 2, 2), wholes(1, 2, 3, 4), wholes(1, 1, 2, 2), wholes(1, 2, 2, 2, 3), wholes(1, 1, 2, 3, 3, 3), wholes(1, 2, 3, 4, 5, 6)} {
		for keys := range specimen.Orders(keys) {
			l := numbered(len(keys))
			sorting.check(t, keys, nil)
			sortBy.check(t, l, keys)
			group.check(t, l, keys)
			unique.check(t, l, keys)
			least.check(t, keys, nil)
			greatest.check(t, keys, nil)
		}
	}
}

// Of two values with one key that comes ahead which stands ahead, whatever the two are.
func TestP7_2P7_3Ahead(t *testing.T) {
	for _, key := range ofAllKinds() {
		for _, many := range []int{1, 2, 3, 5, 8, 33} {
			l, keys := numbered(many), slices.Repeat([]api.Value{key}, many)
			slices.Reverse(l)
			sortBy.checkIs(t, l, keys, list(l...), api.OK)
			group.checkIs(t, l, keys, list(list(l...)), api.OK)
			unique.checkIs(t, l, keys, list(l[0]), api.OK)
		}
	}
	sortBy.checkIs(t, texts("e", "d", "c", "b", "a"), wholes(2, 1, 2, 1, 2), list(texts("d", "b", "e", "c", "a")...), api.OK)
	group.checkIs(t, texts("e", "d", "c", "b", "a"), wholes(2, 1, 2, 1, 2), lists([][]api.Value{texts("d", "b"), texts("e", "c", "a")}), api.OK)
	unique.checkIs(t, texts("e", "d", "c", "b", "a"), wholes(2, 1, 2, 1, 2), list(texts("d", "e")...), api.OK)
}

// What is the same key isn't told by how a list without elements is kept.
func TestP7_2P7_3EmptyLists(t *testing.T) {
	none := api.Value{Kind: api.Array, Items: []api.Value{}, Keys: []string{}}
	nothing := api.Value{Kind: api.Object, Items: []api.Value{}, Keys: []string{}}
	l, keys := texts("d", "c", "b", "a"), []api.Value{nothing, none, object(nil), list()}
	sortBy.checkIs(t, l, keys, list(texts("c", "a", "d", "b")...), api.OK)
	group.checkIs(t, l, keys, lists([][]api.Value{texts("c", "a"), texts("d", "b")}), api.OK)
	unique.checkIs(t, l, keys, list(texts("c", "d")...), api.OK)
	search.checkIs(t, []api.Value{none, nothing}, []api.Value{object(nil)}, found(1, true), api.OK)
}

func TestNone(t *testing.T) {
	for _, none := range [][]api.Value{nil, {}} {
		for _, keys := range [][]api.Value{nil, {}} {
			for _, c := range []call{sorting, sortBy, group, unique, merge} {
				c.checkIs(t, none, keys, list(), api.OK)
			}
			least.checkIs(t, none, keys, whole(-1), api.OK)
			greatest.checkIs(t, none, keys, whole(-1), api.OK)
			search.checkIs(t, none, keys, found(0, false), api.OK)
		}
	}
}

func TestOne(t *testing.T) {
	for _, v := range specimen.WellShaped(random(1), 100) {
		one := []api.Value{v}
		sorting.checkIs(t, one, nil, list(v), api.OK)
		sortBy.checkIs(t, one, wholes(1), list(v), api.OK)
		group.checkIs(t, one, wholes(1), list(list(v)), api.OK)
		unique.checkIs(t, one, wholes(1), list(v), api.OK)
		least.checkIs(t, one, nil, whole(0), api.OK)
		greatest.checkIs(t, one, nil, whole(0), api.OK)
		merge.checkIs(t, one, one, list(v, v), api.OK)
		search.checkIs(t, one, one, found(0, true), api.OK)
	}
}

func TestP7_3Examples(t *testing.T) {
	xyz := texts("x", "y", "z")
	group.checkIs(t, xyz, wholes(2, 1, 2), lists([][]api.Value{texts("y"), texts("x", "z")}), api.OK)
	unique.checkIs(t, xyz, wholes(2, 1, 2), list(texts("y", "x")...), api.OK)
}

// Values that are the same stay in their group as often as they stand in the list, and a value may be in several groups.
func TestP7_3SameValues(t *testing.T) {
	l := texts("x", "x", "y", "x", "x")
	group.checkIs(t, l, wholes(3, 1, 3, 3, 1), lists([][]api.Value{texts("x", "x"), texts("x", "y", "x")}), api.OK)
	unique.checkIs(t, l, wholes(3, 1, 3, 3, 1), list(texts("x", "x")...), api.OK)
	group.checkIs(t, l, wholes(5, 4, 3, 2, 1), lists([][]api.Value{texts("x"), texts("x"), texts("y"), texts("x"), texts("x")}), api.OK)
}

func TestP7_4Examples(t *testing.T) {
	least.checkIs(t, wholes(2, 1, 1), nil, whole(1), api.OK)
	greatest.checkIs(t, wholes(2, 3, 3), nil, whole(2), api.OK)
}

func TestP7_4SeveralTimes(t *testing.T) {
	for _, row := range []struct {
		keys       []api.Value
		low, great int
	}{
		{wholes(7, 7, 7), 0, 2}, {wholes(1, 2, 1, 2), 0, 3}, {wholes(2, 1, 2, 1), 1, 2}, {wholes(3, 1, 2, 1, 3, 2), 1, 4}, {wholes(1, 2, 3), 0, 2}, {wholes(3, 2, 1), 2, 0}, {wholes(-1, -10, 9, 10), 1, 3},
		{[]api.Value{{}, kind(api.True), {}, kind(api.True), kind(api.False)}, 0, 3}, {texts("b", "aa", "é", "Z"), 3, 2}, {[]api.Value{list(), object(nil), text("x"), list()}, 2, 1},
	} {
		least.checkIs(t, row.keys, nil, whole(row.low), api.OK)
		greatest.checkIs(t, row.keys, nil, whole(row.great), api.OK)
	}
}

func TestP7_5Examples(t *testing.T) {
	merge.checkIs(t, wholes(1, 3), wholes(2, 3), list(wholes(1, 2, 3, 3)...), api.OK)
	merge.checkIs(t, wholes(2, 1), nil, list(), api.ErrRange)
	l := wholes(1, 3, 3, 5)
	search.checkIs(t, l, wholes(3), found(1, true), api.OK)
	search.checkIs(t, l, wholes(4), found(3, false), api.OK)
	search.checkIs(t, l, wholes(9), found(4, false), api.OK)
	search.checkIs(t, nil, wholes(9), found(0, false), api.OK)
}

func TestP7_5Merge(t *testing.T) {
	for _, row := range []struct{ a, b, want []api.Value }{
		{nil, wholes(1, 2), wholes(1, 2)}, {wholes(1, 2), nil, wholes(1, 2)}, {wholes(1), wholes(2), wholes(1, 2)}, {wholes(2), wholes(1), wholes(1, 2)},
		{wholes(1, 2), wholes(3, 4), wholes(1, 2, 3, 4)}, {wholes(3, 4), wholes(1, 2), wholes(1, 2, 3, 4)}, {wholes(1, 4), wholes(2, 3), wholes(1, 2, 3, 4)},
		{wholes(1, 1), wholes(1), wholes(1, 1, 1)}, {wholes(1, 2, 2), wholes(2, 2, 3), wholes(1, 2, 2, 2, 2, 3)}, {wholes(9, 10), wholes(-10, -9), wholes(-10, -9, 9, 10)},
		{[]api.Value{{}, text("a")}, []api.Value{whole(1), list()}, []api.Value{{}, whole(1), text("a"), list()}},
	} {
		merge.checkIs(t, row.a, row.b, list(row.want...), api.OK)
	}
}

// Each value of a list of all kinds, once, twice and three times in it; then each one in the list without it.
func TestP7_5Search(t *testing.T) {
	all := ofAllKinds()
	for often := 1; often <= 3; often++ {
		var l []api.Value
		for _, v := range all {
			l = append(l, slices.Repeat([]api.Value{v}, often)...)
		}
		for i, v := range all {
			search.checkIs(t, l, []api.Value{v}, found(i*often, true), api.OK)
			without := slices.Delete(slices.Clone(l), i*often, (i+1)*often)
			search.checkIs(t, without, []api.Value{v}, found(i*often, false), api.OK)
		}
	}
	for many := range 20 {
		var l []api.Value
		for i := range many {
			l = append(l, whole(2*i))
		}
		for x := -1; x <= 2*many; x++ {
			search.checkIs(t, l, wholes(x), found((x+1)/2, x%2 == 0 && x < 2*many), api.OK)
		}
	}
}

// checkFollows holds what the chapter says that follows, of well shaped values.
func checkFollows(t *testing.T, l, keys, more []api.Value) {
	t.Helper()
	up, e := order.Sort(l)
	again, f := order.Sort(up)
	turned, g := order.Sort(shuffled(l, 3))
	byItself, h := order.SortBy(l, l)
	if e != api.OK || f != api.OK || g != api.OK || h != api.OK || !risesOf(up) || len(up) != len(l) || slices.ContainsFunc(l, func(v api.Value) bool { return sameOf(up, v) != sameOf(l, v) }) {
		t.Errorf("Sort(%v) = %v, %d %d %d %d", l, up, e, f, g, h)
	}
	for _, other := range [][]api.Value{again, turned, byItself} {
		if !specimen.Alike(list(other...), list(up...)) {
			t.Errorf("Sort(%v) = %v, but %v", l, up, other)
		}
	}
	groups, e := order.Group(l, keys)
	flat, f := order.SortBy(l, keys)
	if e != api.OK || f != api.OK || !specimen.Alike(list(slices.Concat(groups...)...), list(flat...)) {
		t.Errorf("of %v by %v: the groups are %v, in order %v", l, keys, groups, flat)
	}
	other, _ := order.Sort(more)
	both, e := order.Merge(up, other)
	joined, f := order.Sort(slices.Concat(l, more))
	if e != api.OK || f != api.OK || !specimen.Alike(list(both...), list(joined...)) {
		t.Errorf("of %v and %v: merged %v, sorted %v", l, more, both, joined)
	}
	for _, v := range l {
		if at, there, e := order.Search(up, v); !there || e != api.OK || !value.Same(up[at], v) || sameOf(up[:at], v) != 0 {
			t.Errorf("Search(%v, %v) = %d, %v, %d", up, v, at, there, e)
		}
	}
}

func TestP7_6Follows(t *testing.T) {
	pick := random(76)
	all := specimen.WellShaped(pick, 300)
	for range 600 {
		of := drawn(pick, 1+pick(12), all) // out of few, so that some stand there several times
		many := pick(25)
		checkFollows(t, drawn(pick, many, of), drawn(pick, many, of), drawn(pick, pick(25), of))
	}
}

func TestP7_1P7_2P7_3P7_4P7_5Words(t *testing.T) {
	pick := random(7)
	all := specimen.WellShaped(pick, 300)
	for range 600 {
		of := drawn(pick, 1+pick(12), all)
		many := pick(20)
		l, keys := drawn(pick, many, of), drawn(pick, many, of)
		checkAll(t, l, keys)
		checkAll(t, numbered(many), keys)
		checkAll(t, l, drawn(pick, pick(20), of))
		up, _ := order.Sort(l)
		sure, _ := order.Sort(keys)
		checkAll(t, up, sure)
		checkAll(t, up, keys)
		if many > 0 {
			at := pick(many)
			up[at] = specimen.Spoilt(up[at], pick)
			checkAll(t, up, sure)
			checkAll(t, sure, up)
		}
	}
}

// One list may be handed in twice, and a value may stand in it twice with the same inside: what is answered has each of them for itself.
func TestMemoryOfSharedLists(t *testing.T) {
	v := specimen.Roomy(list(list(whole(1), whole(2)), object([]string{"a"}, list(whole(3)))))
	l := []api.Value{v, v, v, v, v.Items[0]}
	up := []api.Value{v.Items[0], v, v, v}
	for _, c := range allCalls() {
		a := l
		if c.name == "Merge" || c.name == "Search" {
			a = up
		}
		want, code := c.words(a, a)
		got, e := c.do(a, a)
		if e != code || !specimen.Alike(got, want) || !specimen.Own(got, list(a...)) {
			t.Errorf("%s = %v, %d, want %v, %d", c.name, got, e, want, code)
		}
		specimen.Scribble(got)
		if again, _ := c.do(a, a); !specimen.Alike(again, want) {
			t.Errorf("%s = %v, behind what was written into its answer", c.name, again)
		}
	}
}

// A group that grows doesn't grow into another one.
func TestMemoryOfGroups(t *testing.T) {
	groups, _ := order.Group(numbered(9), wholes(1, 2, 3, 1, 2, 3, 1, 2, 3))
	want := value.Twin(lists(groups))
	for i := range groups {
		grown := append(groups[i], text("more"), text("and more"))
		grown[0] = text("else")
		groups[i] = nil
		for j := i + 1; j < len(groups); j++ {
			if !specimen.Alike(list(groups[j]...), want.Items[j]) {
				t.Errorf("group %d, behind the growth of %d: %v", j, i, groups[j])
			}
		}
	}
}

func TestSameness(t *testing.T) {
	pick := random(5)
	of := append(specimen.WellShaped(pick, 20), kind(9))
	var rows [][2][]api.Value
	for many := range 30 {
		rows = append(rows, [2][]api.Value{drawn(pick, many, of[:len(of)-many%2]), drawn(pick, many, of)})
	}
	rows = append(rows, [2][]api.Value{ofAllKinds(), ofAllKinds()})
	answers := func() string {
		var out strings.Builder
		for _, row := range rows {
			for _, c := range allCalls() {
				got, e := c.do(row[0], row[1])
				out.WriteString(told(got) + " " + told(whole(int(e))) + "\n")
			}
		}
		return out.String()
	}
	want := answers()
	var crew sync.WaitGroup
	for range 8 {
		crew.Go(func() {
			for range 10 {
				if got := answers(); got != want {
					t.Error("another answer")
				}
			}
		})
	}
	crew.Wait()
}

// The bound on what is nested is met.
func TestDeepValues(t *testing.T) {
	const levels = 1<<16 - 2
	one, two := specimen.Nested(num("1"), levels), specimen.Nested(num("2"), levels)
	l := []api.Value{two, one, two}
	got, e := order.Group(l, l)
	if e != api.OK || len(got) != 2 || len(got[0]) != 1 || !value.Same(got[0][0], one) || len(got[1]) != 2 || !value.Same(got[1][1], two) {
		t.Error("Group", e, len(got))
	}
	both, e := order.Merge(l[1:], l[1:])
	if e != api.OK || len(both) != 4 || !value.Same(both[1], one) || !value.Same(both[2], two) {
		t.Error("Merge", e, len(both))
	}
	if at, there, e := order.Search(l[1:], two); at != 1 || !there || e != api.OK {
		t.Error("Search", at, there, e)
	}
	if at, e := order.Greatest(l); at != 2 || e != api.OK {
		t.Error("Greatest", at, e)
	}
	if at, e := order.Least([]api.Value{one, specimen.Nested(num("01"), levels)}); at != 0 || e != api.ErrShape {
		t.Error("Least", at, e)
	}
}

// What it costs to put many in order doesn't grow with the square of how many there are, however they stand.
func TestManyValues(t *testing.T) {
	const many = 1 << 17
	for name, key := range map[string]func(i int) int{
		"rising":    func(i int) int { return i },
		"falling":   func(i int) int { return -i },
		"all one":   func(int) int { return 7 },
		"two":       func(i int) int { return i % 2 },
		"up, down":  func(i int) int { return min(i, many-i) },
		"scattered": func(i int) int { return i * 40503 % 65537 },
	} {
		var l, keys []api.Value
		want := map[int]int{}
		for i := range many {
			l, keys = append(l, text("x")), append(keys, whole(key(i)))
			want[key(i)]++
		}
		up, e := order.Sort(keys)
		if e != api.OK || len(up) != many || !slices.IsSortedFunc(up, value.Cmp) {
			t.Errorf("%s: Sort, %d", name, e)
		}
		if groups, e := order.Group(l, keys); e != api.OK || len(groups) != len(want) || len(slices.Concat(groups...)) != many {
			t.Errorf("%s: Group, %d", name, e)
		}
		if first, e := order.Unique(keys, keys); e != api.OK || len(first) != len(want) {
			t.Errorf("%s: Unique, %d", name, e)
		}
		if both, e := order.Merge(up, up); e != api.OK || len(both) != 2*many {
			t.Errorf("%s: Merge, %d", name, e)
		}
		if at, there, e := order.Search(up, keys[many/2]); e != api.OK || !there || !value.Same(up[at], keys[many/2]) {
			t.Errorf("%s: Search, %d", name, e)
		}
	}
}

func FuzzAny(f *testing.F) {
	for _, s := range []string{"", "\x06\x04\x01\x03\x02", "\x05\x03\x06\x02\x01\x06\x04\x03\x03", "abcdefghijklmnopqrstuvwxyz", "\x04\x09\x03\x01\x03\x02\x03\x03\x04\x01\x04\x02\x01\x00\x01\x02\x01"} {
		f.Add([]byte(s))
	}
	f.Fuzz(func(t *testing.T, data []byte) {
		pick := specimen.Picks(data)
		var of []api.Value
		for range 1 + pick(8) {
			of = append(of, specimen.Drawn(pick, 3))
		}
		many := pick(20)
		l, keys, more := drawn(pick, many, of), drawn(pick, many, of), drawn(pick, pick(12), of)
		checkFollows(t, l, keys, more)
		up, _ := order.Sort(l)
		sure, _ := order.Sort(more)
		if many > 0 && pick(4) == 1 {
			at := pick(many)
			l[at], up[at] = specimen.Spoilt(l[at], pick), specimen.Spoilt(up[at], pick)
		}
		for _, row := range [][2][]api.Value{{l, keys}, {numbered(many), keys}, {keys, l}, {l, more}, {up, sure}, {sure, up}, {up, more}} {
			checkAll(t, row[0], row[1])
		}
	})
}
