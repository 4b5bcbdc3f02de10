package word_test

import (
	"fmt"
	"math/rand"
	"slices"
	"strings"
	"testing"

	"hallmark/api"
	"hallmark/specimen"
	"hallmark/word"
)

func newRand(seed int64) *rand.Rand { return rand.New(rand.NewSource(seed)) }

func scanned(t *testing.T, s string) []api.Token {
	t.Helper()
	tokens, e, at := word.Scan(s)
	if e != api.OK || at != 0 {
		t.Fatalf("Scan(%.300q): %d, %d", s, e, at)
	}
	return tokens
}

func TestP16_4TokensOneBehindTheOther(t *testing.T) {
	for _, s := range drawn(5000) {
		tokens, e, _ := word.Scan(s)
		if e != api.OK {
			continue
		}
		end := 0
		for _, x := range append(tokens, api.Token{At: len(s), End: len(s) + 1}) {
			if x.At < end || x.End <= x.At || len(between.FindString(s[end:x.At])) != x.At-end {
				t.Errorf("Scan(%q) = %v", s, tokens)
				break
			}
			end = x.End
		}
	}
}

func TestP16_4TextsAreSetLikeBrackets(t *testing.T) {
	for _, s := range drawn(5000) {
		tokens, _, _ := word.Scan(s)
		open := 0
		for _, x := range tokens {
			if (x.Kind == word.Mid || x.Kind == word.End) && open == 0 {
				t.Errorf("Scan(%q) = %v", s, tokens)
			}
			switch x.Kind {
			case word.Begin:
				open++
			case word.End:
				open--
			}
		}
		if open != 0 {
			t.Errorf("Scan(%q) = %v", s, tokens)
		}
	}
}

// What stands ahead of a token that is no Mid and no End changes places alone.
func TestP16_4BlanksAndRemarksPutIn(t *testing.T) {
	r := newRand(164)
	for range 1000 {
		s, _ := drawnFilter(r)
		tokens := scanned(t, s)
		for i, x := range tokens {
			if x.Kind == word.Mid || x.Kind == word.End {
				continue
			}
			for _, run := range []string{" ", "\t", "\n", "\r", "\r\n \t", "#\n", "# ) \" \\( \xff\n", "#\r#\n"} {
				want := append(slices.Clone(tokens[:i]), moved(tokens[i:], len(run))...)
				checkScan(t, s[:x.At]+run+s[x.At:], want, api.OK, 0)
			}
		}
	}
}

// Ahead of the bracket that closes a filter blanks stand in the filter, so they change places alone there, too.
func TestP16_4BlanksAheadOfAClosingBracket(t *testing.T) {
	checkScan(t, `"\(1 )"`, []api.Token{tok(word.Begin, 0, 3, ""), number(3, "1"), tok(word.End, 5, 7, "")}, api.OK, 0)
	checkScan(t, `"\(1) "`, []api.Token{tok(word.Begin, 0, 3, ""), number(3, "1"), tok(word.End, 4, 7, " ")}, api.OK, 0)
}

// With a fault, too, blanks and remarks ahead change its place alone.
func TestP16_4BlanksAheadOfAFault(t *testing.T) {
	for _, s := range drawn(5000) {
		if _, e, at := word.Scan(s); e != api.OK {
			checkScan(t, " \t\n\r"+s, nil, e, at+4)
			checkScan(t, "#\"\n"+s, nil, e, at+3)
		}
	}
}

func TestP16_4PlainNamesAreTokens(t *testing.T) {
	for _, s := range []string{"a", "_", "x1", "map", "iff", "If", strings.Repeat("n", 1<<16)} {
		checkScan(t, s, []api.Token{name(0, s)}, api.OK, 0)
	}
	check := func(s string) {
		tokens, e, _ := word.Scan(s)
		isName := e == api.OK && slices.Equal(tokens, []api.Token{name(0, s)})
		if isName != word.Plain(s) {
			t.Errorf("Scan(%q) = %v, %d; Plain: %v", s, tokens, e, word.Plain(s))
		}
	}
	short("aZ_09.$ ", 5, check)
	short("ifeldsn", 4, check)
	for _, own := range ownWords() {
		check(own)
	}
}

// scribble writes into a list and into its spare room.
func scribble(list []api.Token) {
	whole := list[:cap(list)]
	for i := range whole {
		whole[i] = api.Token{Kind: 99, At: -1, End: -1, Text: "changed"}
	}
}

// What a list is changed to, its spare room too, no other answer shows.
func TestMemory(t *testing.T) {
	for _, s := range []string{"1", ".", "if", `"a"`, ".a | map($x)", `"a\(.b)c\("\((1))")"`, ")) ]", strings.Repeat("null ", 1000), strings.Repeat(`"\(`, 100) + strings.Repeat(`)"`, 100)} {
		want, _, _ := answerOf(s)
		first, second := scanned(t, s), scanned(t, s)
		scribble(first)
		if !slices.Equal(second, want) {
			t.Errorf("Scan(%q): the second list is %v", s, second)
		}
		grown := append(second, api.Token{Kind: 98})
		scribble(first)
		if !slices.Equal(grown[:len(want)], want) || grown[len(want)] != (api.Token{Kind: 98}) {
			t.Errorf("Scan(%q): the grown list is %v", s, grown)
		}
		scribble(grown)
		checkWords(t, s)
	}
	for _, s := range []string{"&", "1 &", `"`, `1 "\(`, `. "\q"`, "01"} {
		if got, e, _ := word.Scan(s); len(got) != 0 || e == api.OK {
			t.Errorf("Scan(%q) = %v, %d", s, got, e)
		}
	}
}

// Long texts cost what they are long, and no more.
func TestLongTexts(t *testing.T) {
	const n = 1 << 20
	sevens, spaces, quotes := strings.Repeat("7", n), strings.Repeat(" ", n), strings.Repeat(`\"`, n)
	letters := strings.Repeat("é", n)
	checkLong(t, sevens, []api.Token{number(0, sevens)}, api.OK, 0)
	checkLong(t, sevens+".", nil, api.ErrNumber, 0)
	checkLong(t, "0"+sevens, nil, api.ErrNumber, 0)
	checkLong(t, strings.Repeat("x", n), []api.Token{name(0, strings.Repeat("x", n))}, api.OK, 0)
	checkLong(t, "."+strings.Repeat("x", n), []api.Token{tok(word.Field, 0, n+1, strings.Repeat("x", n))}, api.OK, 0)
	checkLong(t, "$"+strings.Repeat("x", n), []api.Token{tok(word.Var, 0, n+1, strings.Repeat("x", n))}, api.OK, 0)
	checkLong(t, spaces, nil, api.OK, 0)
	checkLong(t, spaces+"&", nil, api.ErrWords, n)
	checkLong(t, "#"+spaces+"&", nil, api.OK, 0)
	checkLong(t, strings.Repeat("#\n", n)+"1", []api.Token{number(2*n, "1")}, api.OK, 0)
	checkLong(t, `"`+letters+`"`, []api.Token{tok(word.Text, 0, 2*n+2, letters)}, api.OK, 0)
	checkLong(t, `"`+letters, nil, api.ErrQuote, 2*n+1)
	checkLong(t, `"`+quotes+`"`, []api.Token{tok(word.Text, 0, 2*n+2, strings.Repeat(`"`, n))}, api.OK, 0)
	checkLong(t, `"`+quotes, nil, api.ErrQuote, 2*n+1)
	checkLong(t, `"\(1)`+quotes+"\n", nil, api.ErrControl, 5+2*n)
	var many []api.Token
	for i := range n {
		many = append(many, tok(word.Text, 3*i, 3*i+3, "a"))
	}
	checkLong(t, strings.Repeat(`"a"`, n), many, api.OK, 0)
	checkLong(t, strings.Repeat(`"a"`, n)+"!", nil, api.ErrWords, 3*n)
	many = []api.Token{tok(word.Begin, 0, 3, "")}
	for i := range n {
		many = append(many, tok(word.Mid, 3+3*i, 6+3*i, ""))
	}
	many = append(many, tok(word.End, 3+3*n, 5+3*n, ""))
	checkLong(t, `"\(`+strings.Repeat(`)\(`, n)+`)"`, many, api.OK, 0)
}

// checkLong doesn't show the text.
func checkLong(t *testing.T, s string, want []api.Token, e api.Errno, at int) {
	t.Helper()
	got, gotE, gotAt := word.Scan(s)
	if !slices.Equal(got, want) || gotE != e || gotAt != at {
		t.Errorf("a text of %d bytes that begins with %q: %d tokens, %d, %d, want %d, %d, %d", len(s), s[:8], len(got), gotE, gotAt, len(want), e, at)
	}
}

// Texts in filters in texts, and brackets in brackets, may be as deep as the document's bound.
func TestDeepTexts(t *testing.T) {
	const deep = 1 << 16
	var want []api.Token
	for i := range deep {
		want = append(want, tok(word.Begin, 4*i, 4*i+4, "a"))
	}
	want = append(want, number(4*deep, "1"))
	for i := range deep {
		want = append(want, tok(word.End, 4*deep+1+3*i, 4*deep+4+3*i, "b"))
	}
	whole := strings.Repeat(`"a\(`, deep) + "1" + strings.Repeat(`)b"`, deep)
	checkLong(t, whole, want, api.OK, 0)
	checkLong(t, whole[:len(whole)-1], nil, api.ErrQuote, len(whole)-1)
	checkLong(t, whole+")", append(want, mark(len(whole), ")")), api.OK, 0)
	checkLong(t, whole+"&", nil, api.ErrWords, len(whole))
	checkLong(t, strings.Repeat(`"a\(`, deep), nil, api.ErrQuote, 4*deep)

	brackets := []api.Token{tok(word.Begin, 0, 3, "")}
	for i := range 2 * deep {
		brackets = append(brackets, mark(3+i, "()"[i/deep:i/deep+1]))
	}
	brackets = append(brackets, tok(word.End, 3+2*deep, 5+2*deep, ""))
	open, closed := strings.Repeat("(", deep), strings.Repeat(")", deep)
	checkLong(t, `"\(`+open+closed+`)"`, brackets, api.OK, 0)
	checkLong(t, `"\(`+open+closed+`"`, nil, api.ErrQuote, 4+2*deep)
	checkLong(t, `"\(`+open+closed[1:]+`)"`, nil, api.ErrQuote, 4+2*deep)
	brackets[len(brackets)-1] = tok(word.End, 3+2*deep, 6+2*deep, ")")
	checkLong(t, `"\(`+open+closed+`))"`, brackets, api.OK, 0)
}

func TestSameness(t *testing.T) {
	texts := drawn(300)
	if !specimen.AtOnce(func() string {
		var told strings.Builder
		for _, s := range texts {
			tokens, e, at := word.Scan(s)
			fmt.Fprintln(&told, tokens, e, at, word.Named(s), word.Plain(s))
		}
		return told.String()
	}) {
		t.Error("the same calls answer otherwise")
	}
}

func FuzzAny(f *testing.F) {
	for _, s := range []string{"", " \t\r\n", "# x\r\n", ".a | map($x)", "..a", ".and", "a//=b", `"a\(.b)c"`, `"\("x")"`, `"\((1))\(2)"`, "$", "$if", "!", "\x00", "\xc8", "1.5", `"a`, `"\(1`, `"\ud834\udd1e"`, `"\q"`, "\"\n\"", "\"\\(#)\n)\""} {
		f.Add(s)
	}
	f.Fuzz(func(t *testing.T, s string) {
		checkWords(t, s)
		checkNames(t, s)
		want, e, at := answerOf(s)
		if e != api.OK {
			at += 3
		}
		checkScan(t, " #\n"+s, moved(want, 3), e, at)
	})
}
