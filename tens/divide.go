package tens

// divide is a over b, toward zero, and what that leaves of a; b isn't 0.
func divide(a, b digits) (quotient, rest digits) {
	if compare(a, b) < 0 {
		return nil, a
	}
	if len(b) == 1 {
		quotient, left := divideByGroup(a, b[0])
		return quotient, trim(digits{left})
	}
	// With both of them so many times as great, b's last group is at least half of base:
	// only then are guesses good.
	scale := base / (b[len(b)-1] + 1)
	b = product(b, digits{scale})
	room := make(digits, len(a)+1)
	copy(room, product(a, digits{scale}))
	n := len(b)
	quotient = make(digits, len(a)-n+1)
	for i := len(quotient) - 1; i >= 0; i-- {
		window := room[i : i+n+1 : i+n+1]
		quotient[i] = guess(window, b)
		if takeFrom(window, b, quotient[i]) {
			quotient[i]--
			addTo(window, b)
		}
	}
	rest, _ = divideByGroup(trim(room), scale)
	return trim(quotient), rest
}

// guess is how often b goes into window, which has a group more: that, or one too many. It is how
// often b's two highest groups go into window's three.
func guess(window, b digits) uint64 {
	n := len(b)
	top := window[n]*base + window[n-1]
	often, rest := top/b[n-1], top%b[n-1]
	for often*b[n-2] > rest*base+window[n-2] {
		often--
		rest += b[n-1]
	}
	return often
}

// divideByGroup is a over one group, and what that leaves.
func divideByGroup(a digits, by uint64) (quotient digits, left uint64) {
	quotient = make(digits, len(a))
	for i := len(a) - 1; i >= 0; i-- {
		left *= base
		left += a[i]
		quotient[i] = left / by
		left %= by
	}
	return trim(quotient), left
}

// root is the greatest number whose product with itself isn't above a, by Newton's way: from any
// guess that isn't below the root the guesses fall, and the one that falls no more is the root.
func root(a digits) digits {
	if len(a) == 0 {
		return nil
	}
	now := rootGuess(a)
	for {
		quotient, _ := divide(a, now)
		next, _ := divideByGroup(sum(now, quotient), 2)
		if compare(next, now) >= 0 {
			return now
		}
		now = next
	}
}

// rootGuess is a number above a's root: by the root of a's upper half it is near enough for one or
// two rounds to do.
func rootGuess(a digits) digits {
	if len(a) <= 2 {
		return digits{0, 1}
	}
	quarter := (len(a) + 1) / 4
	_, upper := cut(a, 2*quarter)
	above := sum(root(upper), digits{1})
	return append(make(digits, quarter, quarter+len(above)), above...)
}
