package token_test

import (
	"encoding/json"
	"iter"
	"math/rand"
	"slices"
	"strings"
	"sync"
	"testing"

	"hallmark/api"
	"hallmark/token"
	"hallmark/utf"
)

func stepsIn(seq iter.Seq2[api.Token, api.Errno]) []step {
	var out []step
	for x, e := range seq {
		out = append(out, step{x, e})
	}
	return out
}

func checkScan(t *testing.T, s string, want []api.Token, e api.Errno, at int) {
	t.Helper()
	got, gotE, gotAt := token.Scan(s)
	if !slices.Equal(got, want) || gotE != e || gotAt != at {
		t.Errorf("Scan(%q) = %v, %d, %d, want %v, %d, %d", s, got, gotE, gotAt, want, e, at)
	}
}

// checkFault holds a text whose first fault is known, behind other tokens too.
func checkFault(t *testing.T, s string, e api.Errno, at int) {
	t.Helper()
	checkScan(t, s, nil, e, at)
	for _, ahead := range []string{" ", "\r\n\t", "[", "[1, ", `{"a" : null,`, `"é"`} {
		checkScan(t, ahead+s, nil, e, len(ahead)+at)
	}
}

// checkWords holds Scan and Seq of a text against the chapter's words.
func checkWords(t *testing.T, s string) {
	t.Helper()
	want, e, at := answerOf(s)
	checkScan(t, s, want, e, at)
	if got, want := stepsIn(token.Seq(s)), stepsOf(s); !slices.Equal(got, want) {
		t.Errorf("Seq(%q) gives %v, want %v", s, got, want)
	}
}

const (
	inWord    = "abcdefghijklmnopqrstuvwxyzABCDEFGHIJKLMNOPQRSTUVWXYZ0123456789_"
	inNumeral = inWord + "+-."
	begin     = "{}[]:,\"-" + inWord
	empty     = " \t\n\r"
)

func eachByte(do func(b string)) {
	for b := range 256 {
		do(string([]byte{byte(b)}))
	}
}

func TestP4_1BytesThatBeginNothing(t *testing.T) {
	eachByte(func(b string) {
		if strings.Contains(begin+empty, b) {
			return
		}
		for _, behind := range []string{"", " ", b, "1", "a", `"`, "\xff"} {
			checkFault(t, b+behind, api.ErrByte, 0)
		}
		checkFault(t, `"a"`+b, api.ErrByte, 3)
		checkFault(t, "null "+b, api.ErrByte, 5)
		checkFault(t, "1\n"+b, api.ErrByte, 2)
	})
	for _, s := range []string{"'a'", "+1", ".5", "\x00", "\xc8", "/", "\\", "\\u0041", "é", "\xef\xbb\xbf1", "\u00a01", "\v", "\f1", "#", "(", ";", "=", "`a`"} {
		checkFault(t, s, api.ErrByte, 0)
	}
}

func TestP4_1Words(t *testing.T) {
	for _, s := range []string{"truefalse", "True", "nul", "NULL", "Null", "nulL", "fals", "falsE", "tru", "truE", "t", "f", "n", "_", "__", "_null", "null_", "null0", "true1", "undefined", "NaN", "Infinity", "e5", "E", "a1", "Z", "z", "A", "nullnull"} {
		checkFault(t, s, api.ErrWord, 0)
	}
	for word, kind := range kindOfWord {
		want := []api.Token{{Kind: kind, End: len(word)}}
		checkScan(t, word, want, api.OK, 0)
		for n := 1; n < len(word); n++ {
			checkFault(t, word[:n], api.ErrWord, 0)
			checkFault(t, word[:n]+" "+word[n:], api.ErrWord, 0)
			checkFault(t, word[:n]+strings.ToUpper(word[n:]), api.ErrWord, 0)
		}
		for _, b := range inWord {
			checkFault(t, word+string(b), api.ErrWord, 0)
		}
	}
}

// A word goes up to the first byte that is neither a letter nor a digit nor _.
func TestP4_1WhereAWordEnds(t *testing.T) {
	for word := range kindOfWord {
		eachByte(func(b string) {
			checkWords(t, word+b)
			checkWords(t, word+b+"1")
			if strings.Contains(inWord, b) || strings.Contains(empty+"{}[]:,", b) {
				return
			}
			e, at := api.ErrByte, len(word)
			switch b {
			case `"`:
				e, at = api.ErrQuote, len(word)+1
			case "-":
				e = api.ErrNumber
			}
			checkFault(t, word+b, e, at)
		})
	}
}

func TestP4_1Numerals(t *testing.T) {
	for _, s := range []string{"1.5", "1e2", "1E2", "01", "-", "--1", "1a", "-x", "12-3", "-01", "00", "-00", "0x1F", "1_000", "1.", "0.", "-.5", "1+", "1-", "-+1", "1..2", "0-0", "1true", "1null", "-null", "-_", "1e+2", "1E-2", "123456789012345678901234567890.0", "-0.0", "-0e0", "0e0", "0_", "9-"} {
		checkFault(t, s, api.ErrNumber, 0)
	}
	checkScan(t, "[1.5]", nil, api.ErrNumber, 1)
	for _, b := range inNumeral {
		if b < '0' || b > '9' {
			checkFault(t, "1"+string(b), api.ErrNumber, 0)
			checkFault(t, "1"+string(b)+"2", api.ErrNumber, 0)
			checkFault(t, "-7"+string(b), api.ErrNumber, 0)
		}
		checkFault(t, "0"+string(b), api.ErrNumber, 0)
		checkFault(t, "-0"+string(b), api.ErrNumber, 0)
	}
}

// A numeral goes up to the first byte that is none of its run.
func TestP4_1WhereANumeralEnds(t *testing.T) {
	for _, s := range []string{"0", "-0", "1", "-12", "90", "-"} {
		eachByte(func(b string) {
			checkWords(t, s+b)
			checkWords(t, s+b+"1")
		})
	}
	one := api.Token{Kind: token.Number, End: 1, Text: "1"}
	for _, b := range "{}[]:," {
		checkScan(t, "1"+string(b), []api.Token{one, {Kind: kindOfMark[byte(b)], At: 1, End: 2}}, api.OK, 0)
	}
	for _, b := range empty {
		checkScan(t, "1"+string(b), []api.Token{one}, api.OK, 0)
	}
	checkFault(t, "1\x00", api.ErrByte, 1)
	checkFault(t, "1/2", api.ErrByte, 1)
	checkFault(t, "1é", api.ErrByte, 1)
	checkFault(t, "1\"", api.ErrQuote, 2)
}

func TestP4_1Literals(t *testing.T) {
	for _, c := range []struct {
		s  string
		e  api.Errno
		at int
	}{
		{`"`, api.ErrQuote, 1}, {`"a`, api.ErrQuote, 2}, {`"a\"`, api.ErrQuote, 4}, {`"é`, api.ErrQuote, 3}, {`"a"b"`, api.ErrWord, 3}, {`"a" "`, api.ErrQuote, 5},
		{`"a\q"`, api.ErrEscape, 2}, {`"\`, api.ErrEscape, 1}, {`"\u12"`, api.ErrEscape, 1}, {`"\u00g0"`, api.ErrEscape, 1}, {`"ab\'"`, api.ErrEscape, 3},
		{"\"a\nb\"", api.ErrControl, 2}, {"\"\t\"", api.ErrControl, 1}, {"\"ab\x00", api.ErrControl, 3}, {"\"\x1f\"", api.ErrControl, 1},
		{"\"a\xff\"", api.ErrUTF, 2}, {"\"\xc3\"", api.ErrUTF, 1}, {"\"\xed\xa0\x80\"", api.ErrUTF, 1},
		{`"\ud800"`, api.ErrPair, 1}, {`"x\udc00"`, api.ErrPair, 2}, {`"\ud800\n"`, api.ErrPair, 1},
	} {
		checkFault(t, c.s, c.e, c.at)
	}
}

// The error and the place are those of utf.Unquote, wherever the literal begins.
func TestP4_1LiteralsAsUnquoteHasThem(t *testing.T) {
	short("\"\\ua\n\xc3\xa9", 5, func(s string) {
		for _, ahead := range []string{`"`, `[1, "`, `"" "`} {
			at := len(ahead) - 1
			if _, next, e := utf.Unquote(ahead+s, at); e != api.OK {
				checkScan(t, ahead+s, nil, e, next)
			}
		}
	})
}

func TestP4_1TheFirstFaultCounts(t *testing.T) {
	faults := []struct {
		s  string
		e  api.Errno
		at int
	}{{"'", api.ErrByte, 0}, {"x", api.ErrWord, 0}, {"01", api.ErrNumber, 0}, {`"\q"`, api.ErrEscape, 1}, {"\"\x01\"", api.ErrControl, 1}, {"\"\xff\"", api.ErrUTF, 1}, {`"\udfff"`, api.ErrPair, 1}}
	for _, first := range faults {
		for _, second := range faults {
			checkFault(t, first.s+" "+second.s, first.e, first.at)
			checkFault(t, first.s+" ,null,1, "+second.s, first.e, first.at)
		}
		checkFault(t, first.s+` "`, first.e, first.at)
	}
	checkFault(t, "x 1.5", api.ErrWord, 0)
}

func TestP4_2Examples(t *testing.T) {
	checkScan(t, `{"a": [1, -0, null]}`, []api.Token{
		{Kind: token.OpenObject, At: 0, End: 1}, {Kind: token.Text, At: 1, End: 4, Text: "a"}, {Kind: token.Colon, At: 4, End: 5}, {Kind: token.OpenArray, At: 6, End: 7},
		{Kind: token.Number, At: 7, End: 8, Text: "1"}, {Kind: token.Comma, At: 8, End: 9}, {Kind: token.Number, At: 10, End: 12, Text: "0"}, {Kind: token.Comma, At: 12, End: 13},
		{Kind: token.Null, At: 14, End: 18}, {Kind: token.CloseArray, At: 18, End: 19}, {Kind: token.CloseObject, At: 19, End: 20},
	}, api.OK, 0)
	checkScan(t, "", nil, api.OK, 0)
	short(empty, 4, func(s string) { checkScan(t, s, nil, api.OK, 0) })
	checkScan(t, "][,", []api.Token{{Kind: token.CloseArray, End: 1}, {Kind: token.OpenArray, At: 1, End: 2}, {Kind: token.Comma, At: 2, End: 3}}, api.OK, 0)
	checkScan(t, "1 -3", []api.Token{{Kind: token.Number, End: 1, Text: "1"}, {Kind: token.Number, At: 2, End: 4, Text: "-3"}}, api.OK, 0)
	checkScan(t, `"a"1`, []api.Token{{Kind: token.Text, End: 3, Text: "a"}, {Kind: token.Number, At: 3, End: 4, Text: "1"}}, api.OK, 0)
	checkScan(t, `true"\u00e9"`, []api.Token{{Kind: token.True, End: 4}, {Kind: token.Text, At: 4, End: 12, Text: "é"}}, api.OK, 0)
	checkScan(t, `null-1"":""false`, []api.Token{
		{Kind: token.Null, End: 4}, {Kind: token.Number, At: 4, End: 6, Text: "-1"}, {Kind: token.Text, At: 6, End: 8}, {Kind: token.Colon, At: 8, End: 9},
		{Kind: token.Text, At: 9, End: 11}, {Kind: token.False, At: 11, End: 16},
	}, api.OK, 0)
}

func TestP4_2Kinds(t *testing.T) {
	if got := []int{token.OpenObject, token.CloseObject, token.OpenArray, token.CloseArray, token.Colon, token.Comma, token.Null, token.False, token.True, token.Number, token.Text}; !slices.Equal(got, []int{1, 2, 3, 4, 5, 6, 7, 8, 9, 10, 11}) {
		t.Errorf("the kinds are %v", got)
	}
	for _, p := range marksAndWords() {
		checkScan(t, p.bytes, []api.Token{{Kind: p.kind, End: len(p.bytes)}}, api.OK, 0)
	}
}

func TestP4_2Numbers(t *testing.T) {
	for s, want := range map[string]string{"0": "0", "-0": "0", "7": "7", "-7": "-7", "10": "10", "-10": "-10", "9223372036854775808": "9223372036854775808", "-123456789012345678901234567890": "-123456789012345678901234567890"} {
		checkScan(t, s, []api.Token{{Kind: token.Number, End: len(s), Text: want}}, api.OK, 0)
		checkScan(t, "["+s+"]", []api.Token{{Kind: token.OpenArray, End: 1}, {Kind: token.Number, At: 1, End: 1 + len(s), Text: want}, {Kind: token.CloseArray, At: 1 + len(s), End: 2 + len(s)}}, api.OK, 0)
	}
}

// What another reader of JSON takes for a text is a token that says the same.
func TestP4_2Literals(t *testing.T) {
	for _, s := range []string{`""`, `"a"`, `"\""`, `"\\"`, `"\/"`, `"\b\f\n\r\t"`, `"\u0000"`, `"\u00e9\u20AC"`, `"\ud834\udd1e"`, `"é€𝄞"`, "\"\x7f\"", `"[1,{}] null"`, `"` + strings.Repeat(`\"`, 100) + `"`} {
		var want string
		if err := json.Unmarshal([]byte(s), &want); err != nil {
			t.Fatal(err)
		}
		checkScan(t, " "+s, []api.Token{{Kind: token.Text, At: 1, End: 1 + len(s), Text: want}}, api.OK, 0)
	}
}

func TestP4_2LaidPieces(t *testing.T) {
	r := rand.New(rand.NewSource(42))
	for range 20000 {
		s, want := laid(drawnPieces(r), r)
		checkScan(t, s, want, api.OK, 0)
	}
}

func TestP4_2AsTheWordsSay(t *testing.T) {
	for _, s := range drawn(20000) {
		checkWords(t, s)
	}
	eachByte(func(a string) {
		checkWords(t, a)
		eachByte(func(b string) { checkWords(t, a+b) })
	})
	short("\"-01a.[ \\", 5, func(s string) { checkWords(t, s) })
	short("nul_0-", 6, func(s string) { checkWords(t, s) })
}

func TestP4_3Examples(t *testing.T) {
	want := []step{
		{api.Token{Kind: token.OpenArray, At: 0, End: 1}, api.OK}, {api.Token{Kind: token.Number, At: 1, End: 2, Text: "1"}, api.OK}, {api.Token{Kind: token.Comma, At: 2, End: 3}, api.OK},
		{api.Token{At: 4}, api.ErrWord},
	}
	if got := stepsIn(token.Seq("[1, x, 2.5]")); !slices.Equal(got, want) {
		t.Errorf("Seq gives %v", got)
	}
	for _, s := range []string{"", " \n"} {
		if got := stepsIn(token.Seq(s)); len(got) != 0 {
			t.Errorf("Seq(%q) gives %v", s, got)
		}
	}
}

// Where there is a fault, the last token tells its place alone.
func TestP4_3Faults(t *testing.T) {
	for _, c := range []struct {
		s  string
		e  api.Errno
		at int
	}{{"\x00", api.ErrByte, 0}, {"'", api.ErrByte, 0}, {" Null", api.ErrWord, 1}, {"1.5", api.ErrNumber, 0}, {`"a`, api.ErrQuote, 2}, {`"ab\q" 1`, api.ErrEscape, 3}, {`"\ud800"`, api.ErrPair, 1}, {"\"a\n", api.ErrControl, 2}, {"\"ab\xff", api.ErrUTF, 3}} {
		ahead := []step{{api.Token{Kind: token.Number, End: 2, Text: "-1"}, api.OK}, {api.Token{Kind: token.Comma, At: 2, End: 3}, api.OK}}
		if got := stepsIn(token.Seq(c.s)); !slices.Equal(got, []step{{api.Token{At: c.at}, c.e}}) {
			t.Errorf("Seq(%q) gives %v", c.s, got)
		}
		if got := stepsIn(token.Seq("-1," + c.s)); !slices.Equal(got, append(ahead, step{api.Token{At: 3 + c.at}, c.e})) {
			t.Errorf("Seq(%q) gives %v", "-1,"+c.s, got)
		}
	}
}

// leftAt goes through a sequence and leaves it at a step; called says how often it was asked to go on.
func leftAt(seq iter.Seq2[api.Token, api.Errno], steps int) (got []step, called int) {
	seq(func(x api.Token, e api.Errno) bool {
		called++
		got = append(got, step{x, e})
		return called < steps
	})
	return got, called
}

func TestP4_3AgainAndLeft(t *testing.T) {
	texts := append(drawn(500), "", " ", "x", "1", "[1, x, 2.5]", `{"a": [1, -0, null]}`, "'")
	for _, s := range texts {
		want := stepsOf(s)
		seq := token.Seq(s)
		if seq == nil {
			t.Fatalf("Seq(%q) is nil", s)
		}
		for steps := 1; steps <= len(want)+1; steps++ {
			most := min(steps, len(want))
			got, called := leftAt(seq, steps)
			if !slices.Equal(got, want[:most]) || called != most {
				t.Errorf("Seq(%q) left at step %d: %v (asked %d times), want %v", s, steps, got, called, want[:most])
			}
			if got := stepsIn(seq); !slices.Equal(got, want) {
				t.Errorf("Seq(%q) again: %v, want %v", s, got, want)
			}
		}
	}
}

// Two loops over one sequence, and over two sequences of one text, go each its own way.
func TestP4_3OneInTheOther(t *testing.T) {
	const s = `[1, "a", x`
	want := stepsOf(s)
	seq := token.Seq(s)
	number := 0
	for x, e := range seq {
		if (step{x, e}) != want[number] {
			t.Errorf("step %d is %v, %d", number, x, e)
		}
		number++
		for _, inner := range []iter.Seq2[api.Token, api.Errno]{seq, token.Seq(s)} {
			if got := stepsIn(inner); !slices.Equal(got, want) {
				t.Errorf("inside step %d: %v", number, got)
			}
		}
	}
	if number != len(want) {
		t.Errorf("%d steps", number)
	}
	next, stop := iter.Pull2(seq)
	defer stop()
	for i := range want {
		if x, e, ok := next(); !ok || (step{x, e}) != want[i] {
			t.Errorf("pulled at %d: %v, %d, %v", i, x, e, ok)
		}
	}
	if _, _, ok := next(); ok {
		t.Error("something behind the fault")
	}
}

// checkPlaces holds that tokens stand one behind the other with blanks alone between them, and ahead of all; it answers where the last one ends.
func checkPlaces(t *testing.T, s string, tokens []api.Token) int {
	t.Helper()
	at := 0
	for _, x := range tokens {
		if x.At < at || x.End <= x.At || x.End > len(s) {
			t.Fatalf("Scan(%q): %v behind %d", s, x, at)
		}
		if between := s[at:x.At]; strings.Trim(between, empty) != "" {
			t.Errorf("Scan(%q): %q stands ahead of %v", s, between, x)
		}
		at = x.End
	}
	return at
}

func TestP4_4Places(t *testing.T) {
	for _, s := range drawn(5000) {
		var tokens []api.Token
		whole := true
		for x, e := range token.Seq(s) {
			whole = e == api.OK
			if whole {
				tokens = append(tokens, x)
			}
		}
		end := checkPlaces(t, s, tokens)
		if rest := s[end:]; whole && strings.Trim(rest, empty) != "" {
			t.Errorf("Seq(%q): %q is left", s, rest)
		}
	}
}

// moved are the tokens with places that are so much more.
func moved(tokens []api.Token, by int) []api.Token {
	out := slices.Clone(tokens)
	for i := range out {
		out[i].At += by
		out[i].End += by
	}
	return out
}

func scanned(t *testing.T, s string) []api.Token {
	t.Helper()
	tokens, e, at := token.Scan(s)
	if e != api.OK || at != 0 {
		t.Fatalf("Scan(%q): %d, %d", s, e, at)
	}
	return tokens
}

func TestP4_4BlanksPutIn(t *testing.T) {
	r := rand.New(rand.NewSource(44))
	for range 1000 {
		s, _ := laid(drawnPieces(r), r)
		tokens := scanned(t, s)
		for _, run := range []string{" ", "\t", "\n", "\r", "\r\n \t"} {
			for i := range len(tokens) + 1 {
				at := len(s)
				if i < len(tokens) {
					at = tokens[i].At
				}
				want := append(slices.Clone(tokens[:i]), moved(tokens[i:], len(run))...)
				checkScan(t, s[:at]+run+s[at:], want, api.OK, 0)
			}
		}
	}
}

// With a fault too, blanks change its place alone.
func TestP4_4BlanksAheadOfAFault(t *testing.T) {
	for _, s := range drawn(2000) {
		_, e, at := token.Scan(s)
		if e != api.OK {
			checkScan(t, " \t\n\r"+s, nil, e, at+4)
		}
	}
}

func TestP4_4SeqGivesWhatScanAnswers(t *testing.T) {
	for _, s := range drawn(5000) {
		tokens, e, at := token.Scan(s)
		steps := stepsIn(token.Seq(s))
		if e != api.OK {
			if last := steps[len(steps)-1]; len(tokens) != 0 || last != (step{api.Token{At: at}, e}) {
				t.Errorf("%q: Scan answers %v, %d, %d, Seq ends with %v", s, tokens, e, at, last)
			}
			continue
		}
		var given []api.Token
		for _, next := range steps {
			if next.e != api.OK {
				t.Errorf("Seq(%q) gives %v", s, next)
			}
			given = append(given, next.x)
		}
		if !slices.Equal(given, tokens) {
			t.Errorf("%q: Scan answers %v, Seq gives %v", s, tokens, given)
		}
	}
}

func TestP4_4TwoTexts(t *testing.T) {
	r := rand.New(rand.NewSource(444))
	for range 5000 {
		a, _ := laid(drawnPieces(r), r)
		b, _ := laid(drawnPieces(r), r)
		for _, blank := range empty {
			first := a + string(blank)
			want := append(slices.Clone(scanned(t, first)), moved(scanned(t, b), len(first))...)
			checkScan(t, first+b, want, api.OK, 0)
		}
	}
}

// scribble writes into a list and into its spare room.
func scribble(list []api.Token) {
	whole := list[:cap(list)]
	for i := range whole {
		whole[i] = api.Token{Kind: 99, At: -1, End: -1, Text: "changed"}
	}
}

// What a list is changed to, its spare room too, no other answer shows.
func TestMemory(t *testing.T) {
	for _, s := range []string{"1", `[1, true, "a"]`, `{"a": [1, -0, null], "b": "\u00e9"}`, "][,::", strings.Repeat("null ", 1000)} {
		want, _, _ := answerOf(s)
		first, second := scanned(t, s), scanned(t, s)
		seq := token.Seq(s)
		scribble(first)
		if !slices.Equal(second, want) {
			t.Errorf("Scan(%q): the second list is %v", s, second)
		}
		grown := append(second, api.Token{Kind: 98})
		scribble(first)
		if !slices.Equal(grown[:len(want)], want) || grown[len(want)] != (api.Token{Kind: 98}) {
			t.Errorf("Scan(%q): the grown list is %v", s, grown)
		}
		scribble(grown)
		checkWords(t, s)
		if got := stepsIn(seq); !slices.Equal(got, stepsOf(s)) {
			t.Errorf("Seq(%q) gives %v", s, got)
		}
	}
}

// Long texts cost what they are long, and no more.
func TestLongTexts(t *testing.T) {
	const n = 1 << 20
	digits := strings.Repeat("7", n)
	checkLong(t, digits, []api.Token{{Kind: token.Number, End: n, Text: digits}}, api.OK, 0)
	checkLong(t, "-"+digits+".", nil, api.ErrNumber, 0)
	checkLong(t, "0"+digits, nil, api.ErrNumber, 0)
	checkLong(t, strings.Repeat("x", n), nil, api.ErrWord, 0)
	checkLong(t, strings.Repeat(" ", n), nil, api.OK, 0)
	checkLong(t, strings.Repeat("\n", n)+"\x01", nil, api.ErrByte, n)
	letters := strings.Repeat("é", n)
	checkLong(t, `"`+letters+`"`, []api.Token{{Kind: token.Text, End: 2*n + 2, Text: letters}}, api.OK, 0)
	checkLong(t, `"`+letters, nil, api.ErrQuote, 2*n+1)
	var many []api.Token
	for i := range n {
		many = append(many, api.Token{Kind: token.Text, At: 3 * i, End: 3*i + 3, Text: "a"})
	}
	checkLong(t, strings.Repeat(`"a"`, n), many, api.OK, 0)
	checkLong(t, strings.Repeat(`"a"`, n)+"?", nil, api.ErrByte, 3*n)
	var nested []api.Token
	for i := range n {
		nested = append(nested, api.Token{Kind: token.OpenArray, At: i, End: i + 1})
	}
	checkLong(t, strings.Repeat("[", n), nested, api.OK, 0)
}

// checkLong doesn't show the text.
func checkLong(t *testing.T, s string, want []api.Token, e api.Errno, at int) {
	t.Helper()
	got, gotE, gotAt := token.Scan(s)
	if !slices.Equal(got, want) || gotE != e || gotAt != at {
		t.Errorf("a text of %d bytes that begins with %q: %d tokens, %d, %d, want %d, %d, %d", len(s), s[:8], len(got), gotE, gotAt, len(want), e, at)
	}
}

func TestSameness(t *testing.T) {
	texts := drawn(200)
	seqs := make([]iter.Seq2[api.Token, api.Errno], len(texts))
	for i, s := range texts {
		seqs[i] = token.Seq(s)
	}
	var all sync.WaitGroup
	for range 8 {
		all.Go(func() {
			for i, s := range texts {
				checkWords(t, s)
				checkWords(t, strings.Clone(s))
				if got := stepsIn(seqs[i]); !slices.Equal(got, stepsOf(s)) {
					t.Errorf("Seq(%q) gives %v", s, got)
				}
			}
		})
	}
	all.Wait()
}

func FuzzAny(f *testing.F) {
	for _, s := range []string{"", " \t\r\n", `{"a": [1, -0, null]}`, "][,", "1 -3", `"a"1`, "truefalse", "[1.5]", "12-3", "\x00", "\xc8", `"a`, `"\ud834\udd1e"`, `"\q"`, "\"\n\""} {
		f.Add(s)
	}
	f.Fuzz(func(t *testing.T, s string) {
		checkWords(t, s)
		want, e, at := answerOf(s)
		if e != api.OK {
			at++
		}
		checkScan(t, " "+s, moved(want, 1), e, at)
	})
}
