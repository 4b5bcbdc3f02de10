// Package tens is layer 1: whole numbers of any size, written in tens (see shared/doc/01-tens.md).
package tens

import (
	"cmp"
	"iter"
	"strconv"

	"hallmark/api"
)

// Formed says whether a text is a whole number in tens.
func Formed(s string) bool {
	if s == "0" {
		return true
	}
	_, s = cutMinus(s)
	if s == "" || s[0] == '0' {
		return false
	}
	for i := range len(s) {
		if s[i] < '0' || s[i] > '9' {
			return false
		}
	}
	return true
}

// Of is the text of a number.
func Of(n int) string { return strconv.Itoa(n) }

// Small is what a text is worth, if it is a number that an int holds.
func Small(s string) (int, bool) {
	if !Formed(s) { // strconv takes more texts than the document does: +7, -0, 07
		return 0, false
	}
	n, err := strconv.Atoi(s)
	if err != nil { // beside its error strconv answers the nearest int
		return 0, false
	}
	return n, true
}

// Digits is how many digits a number has; a minus is none.
func Digits(s string) (int, api.Errno) {
	if !Formed(s) {
		return 0, api.ErrShape
	}
	_, s = cutMinus(s)
	return len(s), api.OK
}

// Cmp is -1, 0 or 1, as a is worth less than b, as much, or more.
func Cmp(a, b string) (int, api.Errno) {
	if !Formed(a) || !Formed(b) {
		return 0, api.ErrShape
	}
	belowA, digitsA := cutMinus(a)
	belowB, digitsB := cutMinus(b)
	switch {
	case belowA && belowB:
		return compareTexts(digitsB, digitsA), api.OK
	case belowA:
		return -1, api.OK
	case belowB:
		return 1, api.OK
	}
	return compareTexts(digitsA, digitsB), api.OK
}

// compareTexts needs no reckoning: without noughts ahead the longer text is worth more.
func compareTexts(a, b string) int {
	return cmp.Or(cmp.Compare(len(a), len(b)), cmp.Compare(a, b))
}

// Neg is 0 less a.
func Neg(a string) (string, api.Errno) { return reckonOne(a, number.negated) }

// Abs is a without its sign.
func Abs(a string) (string, api.Errno) { return reckonOne(a, number.unsigned) }

// Add is the sum.
func Add(a, b string) (string, api.Errno) { return reckonTwo(a, b, number.plus) }

// Sub is a less b.
func Sub(a, b string) (string, api.Errno) { return reckonTwo(a, b, number.less) }

// Mul is the product.
func Mul(a, b string) (string, api.Errno) { return reckonTwo(a, b, number.times) }

// Div is a over b, toward zero.
func Div(a, b string) (string, api.Errno) { return reckonOver(a, b, number.over) }

// Mod is what Div leaves of a: it is 0 or has a's sign.
func Mod(a, b string) (string, api.Errno) { return reckonOver(a, b, number.left) }

// Root is the greatest number whose product with itself isn't above a.
func Root(a string) (string, api.Errno) {
	x, ok := read(a)
	if !ok {
		return "", api.ErrShape
	}
	if x.below {
		return "", api.ErrSign
	}
	return number{false, root(x.digits)}.text(), api.OK
}

// Steps goes from one number by steps up to, but not with, another one.
func Steps(from, to, by string) iter.Seq[string] {
	return func(yield func(string) bool) {
		way, e := Cmp(by, "0")
		if e != api.OK || way == 0 {
			return
		}
		for x := from; ; x, _ = Add(x, by) {
			side, e := Cmp(x, to)
			if e != api.OK || side != -way || !yield(x) {
				return
			}
		}
	}
}

// reckonOne works one number out of another one.
func reckonOne(a string, do func(number) number) (string, api.Errno) {
	x, ok := read(a)
	if !ok {
		return "", api.ErrShape
	}
	return do(x).text(), api.OK
}

// reckonTwo works one number out of two.
func reckonTwo(a, b string, do func(x, y number) number) (string, api.Errno) {
	x, okA := read(a)
	y, okB := read(b)
	if !okA || !okB {
		return "", api.ErrShape
	}
	return do(x, y).text(), api.OK
}

// reckonOver is likewise, but that it refuses 0 as the second one, behind all texts that are no number.
func reckonOver(a, b string, do func(x, y number) number) (string, api.Errno) {
	if Formed(a) && b == "0" {
		return "", api.ErrZero
	}
	return reckonTwo(a, b, do)
}
