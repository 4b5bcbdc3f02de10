package arith_test

import (
	"cmp"
	"math/big"
	"math/rand"
	"slices"
	"strconv"
	"strings"
	"unicode/utf8"

	"hallmark/api"
	"hallmark/specimen"
	"hallmark/value"
)

// What stands in this file says the chapter's words once more, with numbers of any size, fields in maps and items one by one. The tests hold the package against it.

type answer = specimen.Answer

func alike(a, b answer) bool { return a.Alike(b) }

func formedOf(l ...api.Value) bool { return value.Formed(list(l...)) }

// opWords are the faults of those operations that have some; of the others nothing is one.
func opWords() map[int]string {
	return map[int]string{api.Add: "add", api.Sub: "sub", api.Mul: "mul", api.Div: "div", api.Mod: "mod", api.Eq: "", api.Ne: "", api.Lt: "", api.Le: "", api.Gt: "", api.Ge: ""}
}

// opsOf are the eleven, rising.
func opsOf() []int {
	return []int{api.Add, api.Sub, api.Mul, api.Div, api.Mod, api.Eq, api.Ne, api.Lt, api.Le, api.Gt, api.Ge}
}

// line is a line of the table: of which values it speaks, and what it says of them.
type line struct {
	fits func(a, b api.Value) bool
	says func(a, b api.Value) answer
}

// kindsOf is of two values of these kinds.
func kindsOf(x, y int) func(a, b api.Value) bool {
	return func(a, b api.Value) bool { return a.Kind == x && b.Kind == y }
}

func bothOf(x int) func(a, b api.Value) bool { return kindsOf(x, x) }

func anyOf(a, b api.Value) bool { return true }

func wholeOf(s string) *big.Int {
	n, _ := new(big.Int).SetString(s, 10)
	return n
}

// reckonedOf is of two numbers.
func reckonedOf(do func(z, x, y *big.Int) *big.Int) func(a, b api.Value) answer {
	return func(a, b api.Value) answer {
		return is(num(do(new(big.Int), wholeOf(a.Num), wholeOf(b.Num)).String()))
	}
}

// comparedOf is of a comparison that holds at these sides.
func comparedOf(sides ...int) []line {
	return []line{{anyOf, func(a, b api.Value) answer { return truth(slices.Contains(sides, cmpOf(a, b))) }}}
}

// tableOf are the lines of an operation, but the one that is told where none of them fits.
func tableOf(op int) []line {
	byNought := func(a, b api.Value) bool { return bothOf(api.Number)(a, b) && wholeOf(b.Num).Sign() == 0 }
	switch op {
	case api.Add:
		return []line{
			{func(a, b api.Value) bool { return a.Kind == api.Null }, func(a, b api.Value) answer { return is(b) }},
			{func(a, b api.Value) bool { return b.Kind == api.Null }, func(a, b api.Value) answer { return is(a) }},
			{bothOf(api.Number), reckonedOf((*big.Int).Add)},
			{bothOf(api.Text), func(a, b api.Value) answer { return is(text(a.Text + b.Text)) }},
			{bothOf(api.Array), func(a, b api.Value) answer { return is(list(slices.Concat(a.Items, b.Items)...)) }},
			{bothOf(api.Object), func(a, b api.Value) answer { return is(mergedOf(a, b, false)) }},
		}
	case api.Sub:
		return []line{{bothOf(api.Number), reckonedOf((*big.Int).Sub)}, {bothOf(api.Array), func(a, b api.Value) answer { return is(lessOf(a, b)) }}}
	case api.Mul:
		return []line{
			{bothOf(api.Number), reckonedOf((*big.Int).Mul)},
			{kindsOf(api.Text, api.Number), repeatedOf},
			{kindsOf(api.Number, api.Text), func(a, b api.Value) answer { return repeatedOf(b, a) }},
			{bothOf(api.Object), func(a, b api.Value) answer { return is(mergedOf(a, b, true)) }},
		}
	case api.Div:
		return []line{{byNought, func(a, b api.Value) answer { return fails("div by 0") }}, {bothOf(api.Number), reckonedOf((*big.Int).Quo)}, {bothOf(api.Text), splitOf}}
	case api.Mod:
		return []line{{byNought, func(a, b api.Value) answer { return fails("mod by 0") }}, {bothOf(api.Number), reckonedOf((*big.Int).Rem)}}
	}
	return map[int][]line{api.Eq: comparedOf(0), api.Ne: comparedOf(-1, 1), api.Lt: comparedOf(-1), api.Le: comparedOf(-1, 0), api.Gt: comparedOf(1), api.Ge: comparedOf(1, 0)}[op]
}

func doOf(op int, a, b api.Value) answer {
	word, isOne := opWords()[op]
	if !isOne || !formedOf(a, b) {
		return answer{}
	}
	for _, l := range tableOf(op) {
		if l.fits(a, b) {
			return l.says(a, b)
		}
	}
	return fails(word)
}

// cmpOf is the order of values.
func cmpOf(a, b api.Value) int {
	if a.Kind != b.Kind {
		return cmp.Compare(a.Kind, b.Kind)
	}
	switch a.Kind {
	case api.Number:
		return wholeOf(a.Num).Cmp(wholeOf(b.Num))
	case api.Text:
		return strings.Compare(a.Text, b.Text)
	case api.Object:
		if side := slices.Compare(a.Keys, b.Keys); side != 0 {
			return side
		}
	}
	return slices.CompareFunc(a.Items, b.Items, cmpOf)
}

// lessOf are the items that are no item of the other one.
func lessOf(a, b api.Value) api.Value {
	out := list()
	for _, item := range a.Items {
		if !slices.ContainsFunc(b.Items, func(other api.Value) bool { return specimen.Alike(item, other) }) {
			out.Items = append(out.Items, item)
		}
	}
	return out
}

// mergedOf is two objects in one, of which objects in fields of one name are put together too, or not.
func mergedOf(a, b api.Value, deep bool) api.Value {
	fields := map[string]api.Value{}
	for i, key := range a.Keys {
		fields[key] = a.Items[i]
	}
	for i, key := range b.Keys {
		item := b.Items[i]
		if first, there := fields[key]; deep && there && first.Kind == api.Object && item.Kind == api.Object {
			item = mergedOf(first, item, true)
		}
		fields[key] = item
	}
	var keys []string
	for key := range fields {
		keys = append(keys, key)
	}
	slices.Sort(keys)
	out := object(keys)
	for _, key := range keys {
		out.Items = append(out.Items, fields[key])
	}
	return out
}

// repeatedOf is a text as many times as a number is worth.
func repeatedOf(s, n api.Value) answer {
	times := wholeOf(n.Num)
	weight := new(big.Int).Mul(times, big.NewInt(int64(len(s.Text))))
	weight.Add(weight, big.NewInt(1))
	switch {
	case times.Cmp(big.NewInt(1)) < 0:
		return is(api.Value{})
	case weight.Cmp(big.NewInt(1048576)) > 0:
		return answer{}
	case s.Text == "":
		return is(text(""))
	}
	return is(text(strings.Join(slices.Repeat([]string{s.Text}, int(times.Int64())), "")))
}

// splitOf is a text cut at another one.
func splitOf(a, b api.Value) answer {
	out := list()
	if a.Text != "" {
		for _, s := range strings.Split(a.Text, b.Text) {
			out.Items = append(out.Items, text(s))
		}
	}
	return is(out)
}

func negOf(a api.Value) answer {
	switch {
	case !formedOf(a):
		return answer{}
	case a.Kind != api.Number:
		return fails("neg")
	}
	return is(num(new(big.Int).Neg(wholeOf(a.Num)).String()))
}

// indexOf asks each item whether it is the one that stands under the key.
func indexOf(of, key api.Value) answer {
	if !formedOf(of, key) {
		return answer{}
	}
	fits := map[[2]int]bool{{api.Object, api.Text}: true, {api.Array, api.Number}: true, {api.Null, api.Text}: true, {api.Null, api.Number}: true}
	if !fits[[2]int{of.Kind, key.Kind}] {
		return fails("index")
	}
	for i, item := range of.Items {
		if of.Kind == api.Object && of.Keys[i] == key.Text {
			return is(item)
		}
		if of.Kind == api.Array && (key.Num == strconv.Itoa(i) || key.Num == strconv.Itoa(i-len(of.Items))) {
			return is(item)
		}
	}
	return is(api.Value{})
}

// boundOf is what a bound counts as in a row of so many.
func boundOf(v api.Value, open, many int) int {
	if v.Kind == api.Null {
		return open
	}
	n, length := wholeOf(v.Num), big.NewInt(int64(many))
	if n.Sign() < 0 {
		n.Add(n, length)
	}
	if n.Sign() < 0 {
		return 0
	}
	if n.Cmp(length) > 0 {
		return many
	}
	return int(n.Int64())
}

// sliceOf asks each number whether it lies between the bounds.
func sliceOf(of, from, to api.Value) answer {
	isBound := func(v api.Value) bool { return v.Kind == api.Null || v.Kind == api.Number }
	switch {
	case !formedOf(of, from, to):
		return answer{}
	case !slices.Contains([]int{api.Null, api.Text, api.Array}, of.Kind) || !isBound(from) || !isBound(to):
		return fails("slice")
	case of.Kind == api.Null:
		return is(api.Value{})
	}
	runes := []rune(of.Text)
	many := len(of.Items) + len(runes) // one of them is none
	out := kind(of.Kind)
	for i := range many {
		switch {
		case i < boundOf(from, 0, many) || i >= boundOf(to, many, many):
		case of.Kind == api.Text:
			out.Text += string(runes[i])
		default:
			out.Items = append(out.Items, of.Items[i])
		}
	}
	return is(out)
}

// eachOf is told with the list as an array.
func eachOf(of api.Value) answer {
	switch {
	case !formedOf(of):
		return answer{}
	case of.Kind != api.Array && of.Kind != api.Object:
		return fails("each")
	}
	return is(list(of.Items...))
}

func faultOf(word string) api.Value {
	if !utf8.ValidString(word) {
		return api.Value{}
	}
	return text(word)
}

// What follows makes values and answers.

var (
	num, text, list, object, kind = specimen.Num, specimen.Text, specimen.List, specimen.Object, specimen.Kind
	is, fails, truth, js          = specimen.Is, specimen.Fails, specimen.Truth, specimen.JSON
)

func whole(n int) api.Value { return num(strconv.Itoa(n)) }

func random(seed int64) specimen.Source { return rand.New(rand.NewSource(seed)).Intn }
