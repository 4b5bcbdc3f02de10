package tens

import "strconv"

// number is a whole number in the form in which it is reckoned with.
type number struct {
	below  bool // says nothing of 0, which is written without a sign
	digits digits
}

// cutMinus parts a text from the minus ahead of it.
func cutMinus(s string) (below bool, rest string) {
	if s != "" && s[0] == '-' {
		return true, s[1:]
	}
	return false, s
}

// read is the number of a text, if it is one.
func read(s string) (number, bool) {
	if !Formed(s) {
		return number{}, false
	}
	below, s := cutMinus(s)
	d := make(digits, 0, len(s)/groupSize+1)
	for s != "" {
		start := max(0, len(s)-groupSize)
		d = append(d, readGroup(s[start:]))
		s = s[:start]
	}
	return number{below, trim(d)}, true
}

// readGroup is what a few digits are worth.
func readGroup(s string) uint64 {
	var g uint64
	for i := range len(s) {
		g *= 10
		g += uint64(s[i] - '0')
	}
	return g
}

// text is the number in tens.
func (n number) text() string {
	if len(n.digits) == 0 {
		return "0"
	}
	out := make([]byte, 0, len(n.digits)*groupSize+1)
	if n.below {
		out = append(out, '-')
	}
	last := len(n.digits) - 1
	out = strconv.AppendUint(out, n.digits[last], 10)
	for i := last - 1; i >= 0; i-- {
		out = writeGroup(out, n.digits[i])
	}
	return string(out)
}

// writeGroup writes a group behind others: with its noughts ahead.
func writeGroup(out []byte, g uint64) []byte {
	out = append(out, noughts...)
	for i := len(out) - 1; g > 0; i-- {
		out[i] += byte(g % 10)
		g /= 10
	}
	return out
}

func (n number) negated() number { return number{!n.below, n.digits} }

func (n number) unsigned() number { return number{false, n.digits} }

func (n number) plus(m number) number {
	if n.below == m.below {
		return number{n.below, sum(n.digits, m.digits)}
	}
	if compare(n.digits, m.digits) < 0 {
		n, m = m, n
	}
	return number{n.below, difference(n.digits, m.digits)}
}

func (n number) less(m number) number { return n.plus(m.negated()) }

func (n number) times(m number) number {
	return number{n.below != m.below, product(n.digits, m.digits)}
}

func (n number) over(m number) number {
	quotient, _ := divide(n.digits, m.digits)
	return number{n.below != m.below, quotient}
}

func (n number) left(m number) number {
	_, rest := divide(n.digits, m.digits)
	return number{n.below, rest}
}
