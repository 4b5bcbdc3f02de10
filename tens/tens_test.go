package tens_test

import (
	"iter"
	"math"
	"math/big"
	"math/rand"
	"slices"
	"strings"
	"sync"
	"testing"

	"hallmark/api"
	"hallmark/tens"
)

type (
	ofOne func(a string) (string, api.Errno)
	ofTwo func(a, b string) (string, api.Errno)
)

// numberless are texts that are no number.
func numberless() []string {
	return []string{
		"", "-", "--", "+", "-0", "00", "-00", "07", "-07", "000", "+7", "+0", "--7", "-+7", "7-", "1-2",
		"1.0", "1.", ".1", "1e2", "1E2", " 1", "1 ", "- 1", "1\n", "\t1", "1,000", "1_000", "0x10", "a", "x1", "1x",
		"1\x00", "\x00", "1/", "1:", "/1", ":1", "٣", "１", "1\u0660", "\xff", "\xb2", "−1", "NaN", "Inf",
		strings.Repeat("0", 40), "-" + strings.Repeat("0", 9), strings.Repeat("9", 100) + "x", "0" + strings.Repeat("9", 100),
	}
}

// numbers are numbers of many sizes: edges of words and of groups of digits, and others drawn from a fixed seed.
func numbers(many int, size int) []string {
	out := []string{
		"0", "1", "-1", "2", "9", "-9", "10", "-10", "99", "100", "999999999", "1000000000", "-1000000000", "1000000001",
		"999999999999999999", "1000000000000000000", "-999999999999999999", "1000000000000000001", "999999999000000000",
		"9223372036854775807", "9223372036854775808", "-9223372036854775808", "-9223372036854775809", "18446744073709551615",
		"18446744073709551616", "340282366920938463463374607431768211456", "-1" + strings.Repeat("0", 54), strings.Repeat("9", 54),
	}
	r := rand.New(rand.NewSource(int64(size)))
	for range many {
		out = append(out, draw(r, 1+r.Intn(size)))
	}
	return out
}

// draw is a number of at most so many digits, with long runs of 0 and of 9: carries go far in them.
func draw(r *rand.Rand, size int) string {
	var b strings.Builder
	for b.Len() < size {
		run := 1 + r.Intn(14)
		switch r.Intn(4) {
		case 0:
			b.WriteString(strings.Repeat("0", run))
		case 1:
			b.WriteString(strings.Repeat("9", run))
		default:
			for range run {
				b.WriteByte(byte('0' + r.Intn(10)))
			}
		}
	}
	s := strings.TrimLeft(b.String()[:size], "0")
	if s == "" {
		return "0"
	}
	if r.Intn(2) == 0 {
		return "-" + s
	}
	return s
}

func worth(t *testing.T, s string) *big.Int {
	t.Helper()
	n, ok := new(big.Int).SetString(s, 10)
	if !ok || n.String() != s {
		t.Fatalf("%q is no number in tens", s)
	}
	return n
}

func mustOne(t *testing.T, do ofOne, a string) string {
	t.Helper()
	got, e := do(a)
	if e != api.OK || !tens.Formed(got) {
		t.Fatalf("of %s: %q, error %d", a, got, e)
	}
	return got
}

func mustTwo(t *testing.T, do ofTwo, a, b string) string {
	t.Helper()
	got, e := do(a, b)
	if e != api.OK || !tens.Formed(got) {
		t.Fatalf("of %s and %s: %q, error %d", a, b, got, e)
	}
	return got
}

func mustCmp(t *testing.T, a, b string) int {
	t.Helper()
	n, e := tens.Cmp(a, b)
	if e != api.OK {
		t.Fatalf("Cmp(%s, %s): error %d", a, b, e)
	}
	return n
}

func TestP1_1Formed(t *testing.T) {
	for _, s := range append(numbers(50, 60), "7", "-7", "120", "9876543210") {
		if !tens.Formed(s) {
			t.Errorf("Formed(%q) = false", s)
		}
	}
	for _, s := range numberless() {
		if tens.Formed(s) {
			t.Errorf("Formed(%q) = true", s)
		}
	}
}

// Each byte, at each place of a number, decides as the document's words say.
func TestP1_1FormedByteByByte(t *testing.T) {
	for c := range 256 {
		digit := c >= '0' && c <= '9'
		for s, want := range map[string]bool{
			string([]byte{byte(c)}):           digit,
			string([]byte{'-', byte(c)}):      digit && c != '0',
			string([]byte{byte(c), '0'}):      digit && c != '0',
			string([]byte{'1', byte(c)}):      digit,
			string([]byte{'1', byte(c), '1'}): digit,
			string([]byte{byte(c), '5', '0'}): digit && c != '0' || c == '-',
		} {
			if got := tens.Formed(s); got != want {
				t.Errorf("Formed(%q) = %v", s, got)
			}
		}
	}
}

func TestP1_1OfAndSmall(t *testing.T) {
	for _, c := range []struct {
		n int
		s string
	}{
		{0, "0"}, {7, "7"}, {-7, "-7"}, {10, "10"}, {-120, "-120"}, {1000000000, "1000000000"},
		{math.MaxInt64, "9223372036854775807"}, {math.MinInt64, "-9223372036854775808"},
		{math.MaxInt64 - 1, "9223372036854775806"}, {math.MinInt64 + 1, "-9223372036854775807"},
	} {
		if got := tens.Of(c.n); got != c.s {
			t.Errorf("Of(%d) = %q", c.n, got)
		}
		if n, ok := tens.Small(c.s); n != c.n || !ok {
			t.Errorf("Small(%s) = %d, %v", c.s, n, ok)
		}
	}
	for _, s := range append(numberless(), "9223372036854775808", "-9223372036854775809", "10000000000000000000", "18446744073709551616", "-"+strings.Repeat("9", 500)) {
		if n, ok := tens.Small(s); n != 0 || ok {
			t.Errorf("Small(%q) = %d, %v", s, n, ok)
		}
	}
}

func TestP1_2Digits(t *testing.T) {
	for s, want := range map[string]int{"-120": 3, "120": 3, "0": 1, "7": 1, "-7": 1, "999999999": 9, "1000000000": 10, "-1000000000": 10, strings.Repeat("8", 1234): 1234} {
		if n, e := tens.Digits(s); n != want || e != api.OK {
			t.Errorf("Digits(%s) = %d, error %d", s, n, e)
		}
	}
	for _, s := range append(numberless(), "01") {
		if n, e := tens.Digits(s); n != 0 || e != api.ErrShape {
			t.Errorf("Digits(%q) = %d, error %d", s, n, e)
		}
	}
}

func TestP1_2Cmp(t *testing.T) {
	for _, c := range []struct {
		a, b string
		want int
	}{{"-10", "-9", -1}, {"10", "9", 1}, {"0", "-1", 1}, {"5", "5", 0}, {"-5", "-5", 0}, {"-5", "5", -1}, {"-100", "99", -1}, {"0", "0", 0}, {"19", "2", 1}, {"-19", "-2", -1}, {"0", "1", -1}} {
		if n := mustCmp(t, c.a, c.b); n != c.want {
			t.Errorf("Cmp(%s, %s) = %d", c.a, c.b, n)
		}
	}
	all := numbers(60, 40)
	for _, a := range all {
		for _, b := range all {
			if n := mustCmp(t, a, b); n != worth(t, a).Cmp(worth(t, b)) {
				t.Errorf("Cmp(%s, %s) = %d", a, b, n)
			}
		}
	}
	for _, s := range append(numberless(), "05") {
		for _, c := range [][2]string{{s, "5"}, {"5", s}, {s, s}} {
			if n, e := tens.Cmp(c[0], c[1]); n != 0 || e != api.ErrShape {
				t.Errorf("Cmp(%q, %q) = %d, error %d", c[0], c[1], n, e)
			}
		}
	}
}

func TestP1_3NegAbs(t *testing.T) {
	for _, c := range []struct{ a, neg, abs string }{{"0", "0", "0"}, {"7", "-7", "7"}, {"-7", "7", "7"}, {"1000000000", "-1000000000", "1000000000"}, {"-9223372036854775808", "9223372036854775808", "9223372036854775808"}} {
		if got := mustOne(t, tens.Neg, c.a); got != c.neg {
			t.Errorf("Neg(%s) = %s", c.a, got)
		}
		if got := mustOne(t, tens.Abs, c.a); got != c.abs {
			t.Errorf("Abs(%s) = %s", c.a, got)
		}
	}
	for _, a := range numbers(200, 120) {
		n := worth(t, a)
		if got := mustOne(t, tens.Neg, a); got != new(big.Int).Neg(n).String() {
			t.Errorf("Neg(%s) = %s", a, got)
		}
		if got := mustOne(t, tens.Abs, a); got != new(big.Int).Abs(n).String() {
			t.Errorf("Abs(%s) = %s", a, got)
		}
	}
}

func TestP1_3Examples(t *testing.T) {
	for _, c := range []struct {
		name string
		do   ofTwo
		a, b string
		want string
	}{
		{"Add", tens.Add, "999", "1", "1000"}, {"Add", tens.Add, "-5", "5", "0"}, {"Add", tens.Add, "0", "0", "0"},
		{"Add", tens.Add, "999999999", "1", "1000000000"}, {"Add", tens.Add, "-1000000000", "1", "-999999999"},
		{"Add", tens.Add, "999999999999999999", "1", "1000000000000000000"}, {"Add", tens.Add, "-3", "-4", "-7"},
		{"Sub", tens.Sub, "1", "1000", "-999"}, {"Sub", tens.Sub, "0", "0", "0"}, {"Sub", tens.Sub, "-4", "-4", "0"},
		{"Sub", tens.Sub, "1000000000000000000", "1", "999999999999999999"}, {"Sub", tens.Sub, "-9223372036854775808", "1", "-9223372036854775809"},
		{"Mul", tens.Mul, "-12", "12", "-144"}, {"Mul", tens.Mul, "0", "-5", "0"}, {"Mul", tens.Mul, "-5", "0", "0"}, {"Mul", tens.Mul, "-5", "-5", "25"},
		{"Mul", tens.Mul, "999999999", "999999999", "999999998000000001"}, {"Mul", tens.Mul, "1000000000", "1000000000", "1000000000000000000"},
	} {
		if got := mustTwo(t, c.do, c.a, c.b); got != c.want {
			t.Errorf("%s(%s, %s) = %s", c.name, c.a, c.b, got)
		}
	}
}

// checkPair holds all that is reckoned with two numbers against math/big.
func checkPair(t *testing.T, a, b string) {
	t.Helper()
	x, y := worth(t, a), worth(t, b)
	for _, c := range []struct {
		name string
		do   ofTwo
		want *big.Int
	}{
		{"Add", tens.Add, new(big.Int).Add(x, y)}, {"Sub", tens.Sub, new(big.Int).Sub(x, y)}, {"Mul", tens.Mul, new(big.Int).Mul(x, y)},
	} {
		if got := mustTwo(t, c.do, a, b); got != c.want.String() {
			t.Fatalf("%s(%s, %s) = %s", c.name, a, b, got)
		}
	}
	if y.Sign() == 0 {
		return
	}
	quotient, rest := new(big.Int).QuoRem(x, y, new(big.Int))
	if got := mustTwo(t, tens.Div, a, b); got != quotient.String() {
		t.Fatalf("Div(%s, %s) = %s", a, b, got)
	}
	if got := mustTwo(t, tens.Mod, a, b); got != rest.String() {
		t.Fatalf("Mod(%s, %s) = %s", a, b, got)
	}
}

func TestP1_3P1_4AgainstBig(t *testing.T) {
	all := numbers(150, 70)
	for _, a := range all {
		for _, b := range all {
			checkPair(t, a, b)
		}
	}
}

// Numbers of some thousand digits, of like and of unlike lengths: halved products, long divisions.
func TestP1_3P1_4LongAgainstBig(t *testing.T) {
	r := rand.New(rand.NewSource(7))
	for _, sizes := range [][2]int{{359, 361}, {360, 360}, {361, 720}, {720, 721}, {719, 360}, {400, 5000}, {3000, 3000}, {6001, 3001}, {5000, 2499}, {4999, 10}, {8000, 4000}} {
		for range 6 {
			a, b := draw(r, sizes[0]), draw(r, sizes[1])
			checkPair(t, a, b)
			checkPair(t, b, a)
			checkPair(t, mustTwo(t, tens.Mul, a, b), b)
		}
	}
	long, ones := "1"+strings.Repeat("0", 5000), strings.Repeat("9", 5000)
	checkPair(t, long, ones)
	checkPair(t, ones, ones)
	checkPair(t, ones+ones, ones)
	checkPair(t, long, long)
}

// rowOf is a number of n groups of nine digits, chosen by the digits of at; noughts ahead are left out.
func rowOf(n, at int) string {
	groups := []string{"000000000", "000000001", "499999999", "500000000", "500000001", "999999998", "999999999"}
	var b strings.Builder
	for range n {
		b.WriteString(groups[at%len(groups)])
		at /= len(groups)
	}
	s := strings.TrimLeft(b.String(), "0")
	if s == "" {
		return "0"
	}
	return s
}

// Here a guess at a group of the quotient by the highest groups is one too many, or as great as no group is.
func TestP1_4HardGuesses(t *testing.T) {
	for i := range 7 * 7 * 7 * 7 {
		for j := range 7 * 7 {
			checkPair(t, rowOf(4, i), rowOf(2, j))
		}
		for j := range 7 * 7 * 7 {
			if (i+j)%11 == 0 {
				checkPair(t, rowOf(4, i), rowOf(3, j))
			}
		}
	}
}

func TestP1_3Refusals(t *testing.T) {
	for _, s := range numberless() {
		for name, do := range map[string]ofOne{"Neg": tens.Neg, "Abs": tens.Abs, "Root": tens.Root} {
			if got, e := do(s); got != "" || e != api.ErrShape {
				t.Errorf("%s(%q) = %q, error %d", name, s, got, e)
			}
		}
		for name, do := range map[string]ofTwo{"Add": tens.Add, "Sub": tens.Sub, "Mul": tens.Mul, "Div": tens.Div, "Mod": tens.Mod} {
			for _, c := range [][2]string{{s, "5"}, {"5", s}, {s, s}, {s, "0"}, {"0", s}} {
				if got, e := do(c[0], c[1]); got != "" || e != api.ErrShape {
					t.Errorf("%s(%q, %q) = %q, error %d", name, c[0], c[1], got, e)
				}
			}
		}
	}
}

func TestP1_4DivMod(t *testing.T) {
	for _, c := range []struct{ a, b, div, mod string }{
		{"7", "2", "3", "1"}, {"-7", "2", "-3", "-1"}, {"7", "-2", "-3", "1"}, {"-7", "-2", "3", "-1"}, {"-6", "3", "-2", "0"},
		{"0", "5", "0", "0"}, {"0", "-5", "0", "0"}, {"1", "2", "0", "1"}, {"-1", "2", "0", "-1"}, {"-1", "-2", "0", "-1"}, {"5", "5", "1", "0"},
		{"1000000000000000000000", "999999999999", "1000000000", "1000000000"},
		{"-1000000000000000000000", "1000000000", "-1000000000000", "0"}, {"1", "1000000000000000000000", "0", "1"},
	} {
		if got := mustTwo(t, tens.Div, c.a, c.b); got != c.div {
			t.Errorf("Div(%s, %s) = %s", c.a, c.b, got)
		}
		if got := mustTwo(t, tens.Mod, c.a, c.b); got != c.mod {
			t.Errorf("Mod(%s, %s) = %s", c.a, c.b, got)
		}
	}
	for _, a := range []string{"0", "1", "-1", "1000000000000000000000"} {
		for name, do := range map[string]ofTwo{"Div": tens.Div, "Mod": tens.Mod} {
			if got, e := do(a, "0"); got != "" || e != api.ErrZero {
				t.Errorf("%s(%s, 0) = %q, error %d", name, a, got, e)
			}
		}
	}
}

func TestP1_5Root(t *testing.T) {
	for a, want := range map[string]string{
		"0": "0", "1": "1", "2": "1", "3": "1", "4": "2", "15": "3", "16": "4", "17": "4", "99": "9", "100": "10",
		"999999999999999999": "999999999", "1000000000000000000": "1000000000", "100000000000000000000": "10000000000", "99999999999999999999": "9999999999",
	} {
		if got := mustOne(t, tens.Root, a); got != want {
			t.Errorf("Root(%s) = %s", a, got)
		}
	}
	for _, a := range []string{"-1", "-4", "-1000000000000000000000"} {
		if got, e := tens.Root(a); got != "" || e != api.ErrSign {
			t.Errorf("Root(%s) = %q, error %d", a, got, e)
		}
	}
}

// The root of a square is its side, and of one less the side less one.
func TestP1_5RootOfSquares(t *testing.T) {
	sides := numbers(150, 60)
	for n := range 300 {
		sides = append(sides, "1"+strings.Repeat("0", n), strings.Repeat("9", n+1))
	}
	sides = append(sides, numbers(5, 3000)...)
	for _, s := range sides {
		side := mustOne(t, tens.Abs, s)
		if side == "0" {
			continue
		}
		square := mustTwo(t, tens.Mul, side, side)
		if got := mustOne(t, tens.Root, square); got != side {
			t.Errorf("Root(%s) = %s", square, got)
		}
		less := mustTwo(t, tens.Sub, side, "1")
		if got := mustOne(t, tens.Root, mustTwo(t, tens.Sub, square, "1")); got != less {
			t.Errorf("Root(%s less 1) = %s", square, got)
		}
		most := mustTwo(t, tens.Add, square, mustTwo(t, tens.Mul, side, "2"))
		if got := mustOne(t, tens.Root, most); got != side {
			t.Errorf("Root(%s) = %s", most, got)
		}
		if got := mustOne(t, tens.Root, side); got != new(big.Int).Sqrt(worth(t, side)).String() {
			t.Errorf("Root(%s) = %s", side, got)
		}
	}
}

func TestP1_6Steps(t *testing.T) {
	for _, c := range []struct {
		from, to, by string
		want         string
	}{
		{"0", "5", "2", "0 2 4"}, {"0", "4", "2", "0 2"}, {"3", "0", "-1", "3 2 1"}, {"0", "1", "5", "0"}, {"0", "-1", "-5", "0"}, {"-3", "3", "2", "-3 -1 1"}, {"2", "-3", "-2", "2 0 -2"},
		{"0", "0", "1", ""}, {"0", "0", "-1", ""}, {"0", "5", "0", ""}, {"5", "0", "0", ""}, {"5", "5", "0", ""}, {"0", "5", "-1", ""}, {"5", "0", "1", ""},
		{"999999999", "1000000001", "1", "999999999 1000000000"}, {"9223372036854775806", "9223372036854775809", "1", "9223372036854775806 9223372036854775807 9223372036854775808"},
		{"-9223372036854775807", "-9223372036854775810", "-1", "-9223372036854775807 -9223372036854775808 -9223372036854775809"},
		{"0", "3000000000000000000000", "1000000000000000000000", "0 1000000000000000000000 2000000000000000000000"},
	} {
		for range 2 {
			if got := strings.Join(slices.Collect(tens.Steps(c.from, c.to, c.by)), " "); got != c.want {
				t.Errorf("Steps(%s, %s, %s) = %s", c.from, c.to, c.by, got)
			}
		}
	}
}

func TestP1_6StepsOfNoNumbers(t *testing.T) {
	for _, s := range append(numberless(), "05") {
		for _, c := range [][3]string{{s, "5", "1"}, {"0", s, "1"}, {"0", "5", s}, {s, s, s}, {s, "5", "-1"}, {"0", s, "-1"}, {s, s, "0"}} {
			steps := tens.Steps(c[0], c[1], c[2])
			if steps == nil {
				t.Fatalf("Steps(%q, %q, %q) is nil", c[0], c[1], c[2])
			}
			for x := range steps {
				t.Fatalf("Steps(%q, %q, %q) has %q", c[0], c[1], c[2], x)
			}
		}
	}
}

// A sequence that is left at some step begins anew when it is ranged over again, inside itself too.
func TestP1_6StepsAgainAndAgain(t *testing.T) {
	steps := tens.Steps("-2", "1"+strings.Repeat("0", 30), "3")
	want := []string{"-2", "1", "4", "7"}
	for leave := range len(want) {
		var got []string
		for x := range steps {
			got = append(got, x)
			if len(got) > leave {
				break
			}
		}
		if !slices.Equal(got, want[:leave+1]) {
			t.Errorf("left at %d: %v", leave, got)
		}
	}
	few := tens.Steps("0", "3", "1")
	var pairs []string
	for x := range few {
		for y := range few {
			pairs = append(pairs, x+y)
		}
	}
	if got := strings.Join(pairs, " "); got != "00 01 02 10 11 12 20 21 22" {
		t.Errorf("inside itself: %s", got)
	}
}

func TestP1_6StepsPulled(t *testing.T) {
	next, stop := iter.Pull(tens.Steps("5", "0", "-2"))
	defer stop()
	for _, want := range []string{"5", "3", "1"} {
		if x, ok := next(); x != want || !ok {
			t.Errorf("next = %q, %v", x, ok)
		}
	}
	if x, ok := next(); x != "" || ok {
		t.Errorf("behind the end: %q, %v", x, ok)
	}
}

func TestP1_7Pairs(t *testing.T) {
	all := numbers(60, 50)
	for _, a := range all {
		if n, ok := tens.Small(a); ok && tens.Of(n) != a {
			t.Errorf("Of(Small(%s)) = %s", a, tens.Of(n))
		}
		for _, b := range all {
			if mustTwo(t, tens.Add, a, b) != mustTwo(t, tens.Add, b, a) || mustTwo(t, tens.Mul, a, b) != mustTwo(t, tens.Mul, b, a) {
				t.Errorf("%s and %s: the order counts", a, b)
			}
			if got := mustTwo(t, tens.Add, mustTwo(t, tens.Sub, a, b), b); got != a {
				t.Errorf("Add(Sub(%s, %s), %s) = %s", a, b, b, got)
			}
			if b == "0" {
				continue
			}
			rest := mustTwo(t, tens.Mod, a, b)
			if got := mustTwo(t, tens.Add, mustTwo(t, tens.Mul, mustTwo(t, tens.Div, a, b), b), rest); got != a {
				t.Errorf("%s over %s and back: %s", a, b, got)
			}
			if mustCmp(t, mustOne(t, tens.Abs, rest), mustOne(t, tens.Abs, b)) != -1 {
				t.Errorf("Mod(%s, %s) = %s", a, b, rest)
			}
			if rest != "0" && (rest[0] == '-') != (a[0] == '-') {
				t.Errorf("Mod(%s, %s) = %s: the sign", a, b, rest)
			}
		}
	}
}

func TestP1_7Triples(t *testing.T) {
	add := func(a, b string) string { return mustTwo(t, tens.Add, a, b) }
	mul := func(a, b string) string { return mustTwo(t, tens.Mul, a, b) }
	all := numbers(10, 45)
	for _, a := range all {
		for _, b := range all {
			for _, c := range all {
				if add(add(a, b), c) != add(a, add(b, c)) || mul(mul(a, b), c) != mul(a, mul(b, c)) {
					t.Errorf("%s, %s, %s: it counts how they are put together", a, b, c)
				}
				if mul(a, add(b, c)) != add(mul(a, b), mul(a, c)) {
					t.Errorf("%s times the sum of %s and %s", a, b, c)
				}
				if mustCmp(t, add(a, c), add(b, c)) != mustCmp(t, a, b) {
					t.Errorf("Cmp of %s and %s, with %s added", a, b, c)
				}
			}
		}
	}
}

// DOC.md, Sameness: the same calls answer the same, though many are under way at once.
func TestSameness(t *testing.T) {
	r := rand.New(rand.NewSource(3))
	a, b := draw(r, 900), draw(r, 700)
	steps := tens.Steps("0", "100", "7")
	all := func() string {
		out := slices.Collect(steps)
		for _, do := range []ofTwo{tens.Add, tens.Sub, tens.Mul, tens.Div, tens.Mod} {
			out = append(out, mustTwo(t, do, a, b))
		}
		return strings.Join(out, " ")
	}
	want := all()
	got := make([]string, 8)
	var crew sync.WaitGroup
	for i := range got {
		crew.Go(func() { got[i] = all() })
	}
	crew.Wait()
	for i := range got {
		if got[i] != want {
			t.Errorf("call %d answers otherwise", i)
		}
	}
}

// FuzzAny hands in texts of any kind: what isn't refused is as math/big has it.
func FuzzAny(f *testing.F) {
	f.Add("7", "-2", "1")
	f.Add("-0", "0", "")
	f.Add("1000000000000000000000", "999999999999", "-340282366920938463463374607431768211456")
	f.Fuzz(func(t *testing.T, a, b, c string) {
		n := 0
		for range tens.Steps(a, b, c) {
			if n++; n == 5 {
				break
			}
		}
		x, ok := new(big.Int).SetString(a, 10)
		if formed := ok && x.String() == a; tens.Formed(a) != formed {
			t.Fatalf("Formed(%q) = %v", a, !formed)
		}
		if !tens.Formed(a) || !tens.Formed(b) {
			if got, e := tens.Div(a, b); got != "" || e != api.ErrShape {
				t.Fatalf("Div(%q, %q) = %q, error %d", a, b, got, e)
			}
			return
		}
		checkPair(t, a, b)
		side := mustOne(t, tens.Abs, a)
		if got := mustOne(t, tens.Root, side); got != new(big.Int).Sqrt(worth(t, side)).String() {
			t.Fatalf("Root(%s) = %s", side, got)
		}
	})
}
