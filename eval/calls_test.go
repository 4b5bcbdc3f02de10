package eval_test

import (
	"strconv"
	"strings"
	"testing"

	"hallmark/eval"
	"hallmark/specimen"
)

// costs is what a call costs besides, that stands within so many others.
func costs(within int) int { return within / 16 }

// upTo is what so many calls cost besides, each within those ahead of it.
func upTo(many int) int {
	sum := 0
	for i := range many {
		sum += costs(i)
	}
	return sum
}

// checkPrice holds the price of a filter that gives one number of one digit.
func checkPrice(t *testing.T, filter string, price int) {
	t.Helper()
	n, v := parsed(t, filter), specimen.JSON("null")
	checkWords(t, n, v, 20000)
	r, _ := eval.Run(n, v, 20000)
	if toldRun(r.Outs, r) != "1 done, left "+strconv.Itoa(20000-price) {
		t.Errorf("%.300s: %s, want a price of %d", filter, toldRun(r.Outs, r), price)
	}
}

// Definitions that call one another, in a row so long.
func TestP23_3CallsInARow(t *testing.T) {
	for many := 1; many <= 70; many++ {
		s := "def f0: 1; "
		for i := 1; i < many; i++ {
			s += "def f" + strconv.Itoa(i) + ": f" + strconv.Itoa(i-1) + "; "
		}
		last := "f" + strconv.Itoa(many-1)
		checkPrice(t, s+last, many+many+1+2+upTo(many)) // definitions, calls, the constant, the output
		checkPrice(t, s+"("+last+" | "+last+")", many+1+2*(many+1+upTo(many))+2)
	}
}

// Calls in what was handed over stand within the call that they are visited by way of; behind a $ they don't, nor do those that an output is handed on to.
func TestP23_3CallsHandedOver(t *testing.T) {
	for _, many := range []int{1, 2, 8, 9, 15, 16, 17, 40} {
		nested := func(front, inner string) string {
			return front + strings.Repeat("f(", many) + inner + strings.Repeat(")", many)
		}
		checkPrice(t, nested("def f(x): x; ", "1"), 1+2*many+1+2+upTo(2*many))
		checkPrice(t, nested("def f($x): $x; ", "1"), 1+2*many+1+2)
		checkPrice(t, nested("def f($x): x; ", "1"), 1+2*many+1+2)
		checkPrice(t, nested("def f($x): 1; ", "1"), 1+2*many+1+2)
		checkPrice(t, nested("def f(x): 1; ", "1"), 1+2+2)
		checkPrice(t, "def f: .; 1 | "+strings.Repeat("f | ", many)+".", 1+1+many+1+2*many+1+2)
	}
	for many := range 8 {
		checkPrice(t, "def f(g): g | g; 1 | "+strings.Repeat("f(", many)+"."+strings.Repeat(")", many), 1+2+twice(many, 0)+2)
	}
}

// twice is what calls of def f(g): g | g cost, so many within one another around a Self, of which the first stands within so many others.
func twice(many, within int) int {
	if many == 0 {
		return 1
	}
	return 1 + costs(within) + 1 + 2*(1+costs(within+1)+twice(many-1, within+2))
}

// A definition that calls itself: the argument with $ is found within one call less than the body.
func TestP23_3CallsRecursion(t *testing.T) {
	for _, last := range []int{0, 1, 9, 15, 16, 17, 32, 40} {
		price := 1 + 1 + (last+1)*5 + upTo(last+1) + 1 + 2 // the definition, the first argument, each call and its condition, the constant, the output
		for n := range last {
			price += 3 + 1 + len(strconv.Itoa(n)) // Sub, Const, Var; what it makes
		}
		checkPrice(t, "def f($n): if $n == 0 then 1 else f($n - 1) end; f("+strconv.Itoa(last)+")", price)
		checkPrice(t, "def f(n): if n == 0 then 1 else f(n - 1) end; f(0)", 1+5+1+1+2)
	}
	checkLines(t, []line{
		{"def f($n): if $n == 0 then 0 else f($n - 1) end; f(40)", "null", "0", "", 474},
		{"def f: if . > 3 then . else . + 1 | f end; f", "0", "4", "", 0},
		{"def f(g): if . > 3 then g else . + 1 | f(g, .) end; f(0)", "1", "0 4 4 4", "", 0},
		{"def r: ., (.[]? | r); [r]", "[[1],2]", "[[[1],2],[1],1,2]", "", 0},
		{"def f($n; g): if $n == 0 then g else f($n - 1; $n, g) end; [f(3; 0)]", "null", "[1,2,3,0]", "", 0},
		{"def fib: if . < 2 then . else (. - 1 | fib) + (. - 2 | fib) end; fib", "6", "8", "", 0},
		{"def even: def odd: if . == 0 then false else . - 1 | even end; if . == 0 then true else . - 1 | odd end; even", "7", "false", "", 0},
	})
}

// Each kind of call, within so many others.
func TestP23_3CallsOfEachKind(t *testing.T) {
	for _, within := range []int{0, 1, 13, 14, 15, 16, 17, 30, 31, 32, 47, 48} {
		in := func(definitions, body string) string {
			s := definitions + "def f0: " + body + "; "
			for i := range within {
				s += "def f" + strconv.Itoa(i+1) + ": f" + strconv.Itoa(i) + "; "
			}
			return s + "f" + strconv.Itoa(within)
		}
		around := within + 1 + within + 1 + upTo(within+1) // definitions and calls
		checkPrice(t, in("", "1"), around+1+2)
		checkPrice(t, in("def g: 1; ", "g"), 1+around+1+costs(within+1)+1+2)
		checkPrice(t, in("def g($x): $x; ", "g(1)"), 1+around+1+costs(within+1)+1+1+2)
		checkPrice(t, in("def g($x): x; ", "g(1)"), 1+around+1+costs(within+1)+1+1+costs(within+2)+2)
		checkPrice(t, in("def g(x): x; ", "g(1)"), 1+around+1+costs(within+1)+1+costs(within+2)+1+2)
		checkPrice(t, in("def g(x): def h(y): y; h(x); ", "g(1)"), 1+around+1+costs(within+1)+1+1+costs(within+2)+1+costs(within+3)+1+costs(within+4)+1+2)
		checkPrice(t, in("", "0 | not | 1"), around+5+1+2)
		checkPrice(t, in("", "def g: 1; g"), around+1+1+costs(within+1)+1+2)
		checkPrice(t, in("", "[empty, range(0; 1)] | .[0] + 1"), around+2+2+3+2+3+5+2+2)
	}
}
