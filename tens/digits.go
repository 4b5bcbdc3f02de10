package tens

import (
	"cmp"
	"slices"
)

// digits are a whole number's digits without its sign, nine in a group, the lowest group first.
// The last group isn't 0, so 0 has no group at all: what works on pieces trims what it hands out.
type digits []uint64

const (
	groupSize = 9
	noughts   = "000000000"   // as many as groupSize
	base      = 1_000_000_000 // 10 to the groupSize: two groups' product and two carries fit a word
	fewGroups = 40            // below so many groups it costs more to halve than it saves
)

// trim leaves out the groups of 0 at the end. Its room ends with it, as that of each piece that is
// cut here: what is written behind a piece can't fall on the one beside it.
func trim(d digits) digits {
	n := len(d)
	for n > 0 && d[n-1] == 0 {
		n--
	}
	return d[:n:n]
}

// cut parts digits into the lowest n groups and those above them.
func cut(d digits, n int) (low, high digits) {
	return trim(d[:n:n]), d[n:len(d):len(d)]
}

// compare is -1, 0 or 1, as a is worth less than b, as much, or more.
func compare(a, b digits) int {
	if len(a) != len(b) {
		return cmp.Compare(len(a), len(b))
	}
	for i := len(a) - 1; i >= 0; i-- {
		if a[i] != b[i] {
			return cmp.Compare(a[i], b[i])
		}
	}
	return 0
}

// addTo adds d to what stands in room. What room can't hold is dropped.
func addTo(room, d digits) {
	var carry uint64
	for i := range room {
		if i < len(d) {
			carry += d[i]
		} else if carry == 0 {
			return
		}
		carry += room[i]
		room[i] = carry % base
		carry /= base
	}
}

// takeFrom takes d, so many times, from what stands in room. It says whether there was too little;
// room stands then as if it had gone round below 0, so that addTo of d puts right one time too many.
func takeFrom(room, d digits, times uint64) (tooLittle bool) {
	var carry uint64
	for i := range room {
		if i < len(d) {
			carry += d[i] * times
		} else if carry == 0 {
			return false
		}
		// More than any carry is lent and given back at once, so that no branch hangs on what the
		// digits are: this is the inmost step of long divisions.
		left := base*base + room[i] - carry
		room[i] = left % base
		carry = base - left/base
	}
	return carry > 0
}

// sum is a and b.
func sum(a, b digits) digits {
	room := make(digits, max(len(a), len(b))+1)
	copy(room, a)
	addTo(room, b)
	return trim(room)
}

// difference is a less b, where b isn't above a.
func difference(a, b digits) digits {
	room := slices.Clone(a)
	takeFrom(room, b, 1)
	return trim(room)
}

// product is a times b. Long ones are halved, and of the four products of the halves the middle two
// are worked out as one (Karatsuba's way).
func product(a, b digits) digits {
	if len(a) < len(b) {
		a, b = b, a
	}
	if len(b) < fewGroups {
		return productByRows(a, b)
	}
	half := (len(a) + 1) / 2
	lowA, highA := cut(a, half)
	room := make(digits, len(a)+len(b))
	upper := room[half:len(room):len(room)]
	if len(b) <= half { // b has no upper half
		copy(room, product(lowA, b))
		addTo(upper, product(highA, b))
		return trim(room)
	}
	lowB, highB := cut(b, half)
	low, high := product(lowA, lowB), product(highA, highB)
	copy(room, low)
	addTo(room[2*half:len(room):len(room)], high)
	addTo(upper, product(sum(lowA, highA), sum(lowB, highB)))
	takeFrom(upper, low, 1)
	takeFrom(upper, high, 1)
	return trim(room)
}

// productByRows is a times b, group by group.
func productByRows(a, b digits) digits {
	room := make(digits, len(a)+len(b))
	for i, x := range b {
		row := room[i : i+len(a)+1 : i+len(a)+1]
		var carry uint64
		for j, y := range a {
			carry += row[j] + x*y
			row[j] = carry % base
			carry /= base
		}
		row[len(a)] = carry
	}
	return trim(room)
}
