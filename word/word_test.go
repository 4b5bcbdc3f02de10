package word_test

import (
	"slices"
	"strings"
	"testing"

	"hallmark/api"
	"hallmark/utf"
	"hallmark/word"
)

func tok(kind, at, end int, text string) api.Token {
	return api.Token{Kind: kind, At: at, End: end, Text: text}
}

func mark(at int, text string) api.Token { return tok(word.Mark, at, at+len(text), text) }

func name(at int, text string) api.Token { return tok(word.Name, at, at+len(text), text) }

func number(at int, text string) api.Token { return tok(word.Number, at, at+len(text), text) }

func checkScan(t *testing.T, s string, want []api.Token, e api.Errno, at int) {
	t.Helper()
	got, gotE, gotAt := word.Scan(s)
	if !slices.Equal(got, want) || gotE != e || gotAt != at {
		t.Errorf("Scan(%q) = %v, %d, %d, want %v, %d, %d", s, got, gotE, gotAt, want, e, at)
	}
}

// checkWords holds Scan of a text against the chapter's words.
func checkWords(t *testing.T, s string) {
	t.Helper()
	want, e, at := answerOf(s)
	checkScan(t, s, want, e, at)
}

func moved(tokens []api.Token, by int) []api.Token {
	out := slices.Clone(tokens)
	for i := range out {
		out[i].At += by
		out[i].End += by
	}
	return out
}

// checkTokens holds a text without a fault to its tokens: alone, behind blanks, remarks and other tokens, and as a filter within a text. It may not have closing brackets too many, nor end within a remark.
func checkTokens(t *testing.T, s string, want ...api.Token) {
	t.Helper()
	checkScan(t, s, want, api.OK, 0)
	for _, ahead := range []string{" ", "\t\r\n", "# \"\\(\n", "#\n#\r\n "} {
		checkScan(t, ahead+s, moved(want, len(ahead)), api.OK, 0)
		checkScan(t, ahead+s+ahead, moved(want, len(ahead)), api.OK, 0)
	}
	checkScan(t, ", "+s+" ;", slices.Concat([]api.Token{mark(0, ",")}, moved(want, 2), []api.Token{mark(3+len(s), ";")}), api.OK, 0)
	inside := slices.Concat([]api.Token{tok(word.Begin, 0, 4, "x")}, moved(want, 4), []api.Token{tok(word.End, 4+len(s), 7+len(s), "y")})
	checkScan(t, `"x\(`+s+`)y"`, inside, api.OK, 0)
	twice := slices.Concat([]api.Token{tok(word.Begin, 0, 3, "")}, moved(inside, 3), []api.Token{tok(word.Mid, 10+len(s), 13+len(s), "")}, moved(want, 13+len(s)), []api.Token{tok(word.End, 13+2*len(s), 15+2*len(s), "")})
	checkScan(t, `"\("x\(`+s+`)y")\(`+s+`)"`, twice, api.OK, 0)
}

// checkFault holds a text whose first fault is known: alone, behind other tokens, within texts, and with more faults behind it.
func checkFault(t *testing.T, s string, e api.Errno, at int) {
	t.Helper()
	checkScan(t, s, nil, e, at)
	for _, ahead := range []string{" ", "\r\n\t", "# &\n", "[", ".a | ", "$x,", "if ", `"é" `, `"\(`, `"a\(1)b\((2), `, `"\("\(`, ")) "} {
		checkScan(t, ahead+s, nil, e, len(ahead)+at)
		for _, behind := range []string{" ", " &", " 01", "\n\"", " $", " )\"\x01"} {
			if e != api.ErrQuote {
				checkScan(t, ahead+s+behind, nil, e, len(ahead)+at)
			}
		}
	}
}

func eachByte(do func(b string)) {
	for b := range 256 {
		do(string([]byte{byte(b)}))
	}
}

const (
	letters = "abcdefghijklmnopqrstuvwxyzABCDEFGHIJKLMNOPQRSTUVWXYZ_"
	digits  = "0123456789"
	empty   = " \t\n\r"
)

func TestExamples(t *testing.T) {
	checkTokens(t, ".a | map($x)", tok(word.Field, 0, 2, "a"), mark(3, "|"), name(5, "map"), mark(8, "("), tok(word.Var, 9, 11, "x"), mark(11, ")"))
	checkTokens(t, "..", mark(0, ".."))
	checkTokens(t, "..a", mark(0, ".."), name(2, "a"))
	checkTokens(t, ".and", tok(word.Field, 0, 4, "and"))
	checkTokens(t, ". a", mark(0, "."), name(2, "a"))
	checkTokens(t, "a//=b", name(0, "a"), mark(1, "//="), name(4, "b"))
	checkScan(t, "1 # x", []api.Token{number(0, "1")}, api.OK, 0)
	checkTokens(t, "if", tok(word.Own, 0, 2, "if"))
	checkTokens(t, `"a\(.b)c"`, tok(word.Begin, 0, 4, "a"), tok(word.Field, 4, 6, "b"), tok(word.End, 6, 9, "c"))
	checkTokens(t, `"\("x")"`, tok(word.Begin, 0, 3, ""), tok(word.Text, 3, 6, "x"), tok(word.End, 6, 8, ""))
	checkTokens(t, `"\((1))\(2)"`, tok(word.Begin, 0, 3, ""), mark(3, "("), number(4, "1"), mark(5, ")"), tok(word.Mid, 6, 9, ""), number(9, "2"), tok(word.End, 10, 12, ""))
	for _, s := range []string{"$", "$1", "$if", "&", "\xc8", "!"} {
		checkFault(t, s, api.ErrWords, 0)
	}
	checkTokens(t, "!=", mark(0, "!="))
	for _, s := range []string{"1.5", "01", "1a", "1..2"} {
		checkFault(t, s, api.ErrNumber, 0)
	}
	checkFault(t, `"a`, api.ErrQuote, 2)
	checkFault(t, `"\(1`, api.ErrQuote, 4)
	checkFault(t, `"\q"`, api.ErrEscape, 1)
	checkFault(t, "\"a\n\"", api.ErrControl, 2)
	if !word.Named("and") || !word.Named("_x1") || word.Named("1x") || word.Named("") || word.Named("a-b") || word.Plain("and") || !word.Plain("map") {
		t.Error("Named or Plain")
	}
}

func TestErrorsAndKinds(t *testing.T) {
	if got := []api.Errno{api.ErrWords, api.ErrNumber, api.ErrControl, api.ErrUTF, api.ErrQuote, api.ErrEscape, api.ErrPair}; !slices.Equal(got, []api.Errno{160, 42, 22, 20, 21, 23, 24}) {
		t.Errorf("the errors are %v", got)
	}
	if got := []int{word.Name, word.Own, word.Var, word.Field, word.Number, word.Text, word.Begin, word.Mid, word.End, word.Mark}; !slices.Equal(got, []int{1, 2, 3, 4, 5, 6, 7, 8, 9, 10}) {
		t.Errorf("the kinds are %v", got)
	}
}

func TestP16_1BytesThatBeginNothing(t *testing.T) {
	begins := letters + digits + empty + "\"#$.|+-*/%=<>,()[]{}:;?"
	many := 0
	eachByte(func(b string) {
		if strings.Contains(begins, b) {
			return
		}
		many++
		for _, behind := range []string{"", " ", b, "1", "a", `"`, "\xff", " ="} {
			checkFault(t, b+behind, api.ErrWords, 0)
		}
		for _, ahead := range []string{"a", ".a", "$a", "..", "1", `"a"`, "if", "/"} {
			checkFault(t, ahead+b, api.ErrWords, len(ahead))
		}
	})
	if many != 256-len(begins) {
		t.Errorf("%d bytes begin nothing", many)
	}
	for _, s := range []string{"!", "! =", "!a", "!!=", "&", "&&", "é", "\xef\xbb\xbf1", "\u00a01", "\u2028", "\v", "\f", "\x00", "\x7f", "\x80", "\xff", "\\", `\(`, `\"`, "'a'", "`a`", "@base64", "^", "~"} {
		checkFault(t, s, api.ErrWords, 0)
	}
	checkScan(t, "!=", []api.Token{mark(0, "!=")}, api.OK, 0)
	checkFault(t, "!=!", api.ErrWords, 2)
	checkFault(t, "==!", api.ErrWords, 2)
	checkFault(t, ".é", api.ErrWords, 1)
	checkFault(t, "aé", api.ErrWords, 1)
	checkFault(t, "$aé", api.ErrWords, 2)
}

func TestP16_1DollarSigns(t *testing.T) {
	for _, s := range []string{"$", "$$", "$$a", "$ a", "$\ta", "$\na", "$#\na", "$1", "$1a", "$0", "$.a", "$.", `$"a"`, "$(", "$-a", "$é", "$\x00"} {
		checkFault(t, s, api.ErrWords, 0)
	}
	eachByte(func(b string) {
		if !strings.Contains(letters, b) {
			checkFault(t, "$"+b, api.ErrWords, 0)
			checkFault(t, "$"+b+"a", api.ErrWords, 0)
			return
		}
		checkTokens(t, "$"+b, tok(word.Var, 0, 2, b))
	})
	for _, own := range ownWords() {
		checkFault(t, "$"+own, api.ErrWords, 0)
		checkFault(t, "a $"+own+" b", api.ErrWords, 2)
		checkFault(t, "$"+own+".a", api.ErrWords, 0)
		checkFault(t, "$"+own+"$a", api.ErrWords, 0)
	}
}

func TestP16_1Numbers(t *testing.T) {
	great := "9" + strings.Repeat("0", 400)
	for _, s := range []string{"00", "01", "007", "0" + great, "1.", "1.5", "0.", "0.5", "1..", "1..2", "1...", "1.a", "1.if", "0x1F", "1e2", "1E2", "1_000", "0_", "1a", "1_", "1and", "9Z", "1if", "123456789012345678901234567890.0", great + "x", great + ".", "00.", "0e0"} {
		checkFault(t, s, api.ErrNumber, 0)
	}
	for _, b := range letters + "." {
		for _, s := range []string{"0", "1", "9", "10", great} {
			checkFault(t, s+string(b), api.ErrNumber, 0)
			checkFault(t, s+string(b)+"1", api.ErrNumber, 0)
		}
	}
	for _, d := range digits {
		checkFault(t, "0"+string(d), api.ErrNumber, 0)
	}
	checkFault(t, ".01", api.ErrNumber, 1)
	checkFault(t, "..01", api.ErrNumber, 2)
	checkFault(t, "-01", api.ErrNumber, 1)
	checkFault(t, "[1.5]", api.ErrNumber, 1)
	checkFault(t, "1+1a+1b", api.ErrNumber, 2)
	checkFault(t, `"\(1.5)"`, api.ErrNumber, 3)
}

// piecesOf calls with a piece as each of the four kinds has it, and the number of bytes ahead of it.
func piecesOf(written string, do func(s string, ahead int)) {
	for _, c := range [][2]string{{`"`, `"`}, {`"`, `\(1)"`}, {`"\(1)`, `\(2)"`}, {`"\(1)`, `"`}, {`"a\((1),.)`, `"`}, {`"\("`, `")"`}, {`"\("")`, `"`}, {`"\("\(1)`, `")"`}, {`"\("\(1)")`, `"`}} {
		do(c[0]+written+c[1], len(c[0]))
	}
}

func TestP16_1FaultsInTexts(t *testing.T) {
	for _, c := range []struct {
		written string
		e       api.Errno
		at      int
	}{
		{"\n", api.ErrControl, 0}, {"a\tb", api.ErrControl, 1}, {"\x00", api.ErrControl, 0}, {"é\x1f", api.ErrControl, 2}, {`\n` + "\r", api.ErrControl, 2}, {"# x\n", api.ErrControl, 3},
		{"\xff", api.ErrUTF, 0}, {"\xc3", api.ErrUTF, 0}, {"a\xc3\x28", api.ErrUTF, 1}, {"\xc0\x80", api.ErrUTF, 0}, {"\xed\xa0\x80", api.ErrUTF, 0}, {"\xf4\x90\x80\x80", api.ErrUTF, 0}, {"é\xa9", api.ErrUTF, 2}, {"\xe2\x82", api.ErrUTF, 0}, {"\xf0\x9f\x98", api.ErrUTF, 0}, {"€\x80x", api.ErrUTF, 3}, {"\x80", api.ErrUTF, 0}, {"\xf8", api.ErrUTF, 0},
		{`\q`, api.ErrEscape, 0}, {`a\'`, api.ErrEscape, 1}, {`\ `, api.ErrEscape, 0}, {`\)`, api.ErrEscape, 0}, {`\[`, api.ErrEscape, 0}, {`\u`, api.ErrEscape, 0}, {`\u1`, api.ErrEscape, 0}, {`\u12`, api.ErrEscape, 0}, {`\u123`, api.ErrEscape, 0}, {`é\u123g`, api.ErrEscape, 2}, {`\u 123`, api.ErrEscape, 0}, {`\u+123`, api.ErrEscape, 0}, {`\u1_23`, api.ErrEscape, 0}, {`\U0041`, api.ErrEscape, 0}, {`\x41`, api.ErrEscape, 0}, {`\N`, api.ErrEscape, 0}, {`\0`, api.ErrEscape, 0}, {"\\\n", api.ErrEscape, 0}, {"\\\xff", api.ErrEscape, 0}, {"\\é", api.ErrEscape, 0}, {"\\\x00", api.ErrEscape, 0}, {"\\u00\n1", api.ErrEscape, 0}, {`\\\q`, api.ErrEscape, 2}, {`\"\q`, api.ErrEscape, 2}, {`\u0041\u004`, api.ErrEscape, 6},
		{`\ud800`, api.ErrPair, 0}, {`\udbff`, api.ErrPair, 0}, {`\udc00`, api.ErrPair, 0}, {`\udfff`, api.ErrPair, 0}, {`a\uDC00`, api.ErrPair, 1}, {`\ud800x`, api.ErrPair, 0}, {`\ud800\n`, api.ErrPair, 0}, {`\ud800\u0041`, api.ErrPair, 0}, {`\ud800\ud800\udc00`, api.ErrPair, 0}, {`\ud834\udd1e\udd1e`, api.ErrPair, 12}, {`\ud800\udc0`, api.ErrPair, 0}, {`\ud800\(1)`, api.ErrPair, 0}, {`\ud800\q`, api.ErrPair, 0}, {"\\ud800\n", api.ErrPair, 0}, {"\\ud800\xff", api.ErrPair, 0},
	} {
		piecesOf(c.written, func(s string, ahead int) { checkFault(t, s, c.e, ahead+c.at) })
		checkFault(t, `"`+c.written, c.e, 1+c.at)
	}
	eachByte(func(b string) {
		switch {
		case b < " ":
			piecesOf(b, func(s string, ahead int) { checkFault(t, s, api.ErrControl, ahead) })
		case b >= "\x80":
			piecesOf(b, func(s string, ahead int) { checkFault(t, s, api.ErrUTF, ahead) })
		}
		if !strings.Contains(`"\/bfnrtu(`, b) {
			piecesOf(`\`+b, func(s string, ahead int) { checkFault(t, s, api.ErrEscape, ahead) })
		}
	})
}

// What begins no escape is refused as utf.Escape refuses it.
func TestP16_1EscapesAsUtfHasThem(t *testing.T) {
	short("\\u(dc08\"", 5, func(s string) {
		for _, ahead := range []string{`"`, `"\(1)`, `"\ud83d`} {
			checkWords(t, ahead+`\`+s)
			checkWords(t, ahead+`\`+s+`"`)
			if r, next, e := utf.Escape(`\`+s, 0); e != api.OK && !strings.HasPrefix(s, "(") && ahead != `"\ud83d` {
				checkScan(t, ahead+`\`+s, nil, e, len(ahead))
			} else if e == api.OK && ahead == `"` {
				checkScan(t, ahead+`\`+s[:next-1]+`"`, []api.Token{tok(word.Text, 0, next+2, string(r))}, api.OK, 0)
			}
		}
	})
}

func TestP16_1TextsThatDontEnd(t *testing.T) {
	for _, s := range []string{
		`"`, `"a`, `"é`, `"a\"`, `"\\`, `"\n`, `"a \\\"`, `"#`, `"a" "`, `"a"b"`, `"\u0041`, `"\ud83d\ude00`,
		`"\(`, `"\( `, `"\(1`, `"\(1 #)"`, "\"\\(#\n", `"\(#`, `"\(a`, `"\(.a`, `"\($a`, `"\(..`, `"\(if`, `"\("a"`, `"\((`, `"\((1)`, `"\((()`, `"\((1)"`, `"\((1"`,
		`"\(1)`, `"\(1)a`, `"\(1)\(`, `"\(1)\(2`, `"\(1)\(2)`, `"\()`, `"\())`,
		`"\("`, `"\("a`, `"\("a)"`, `"\("\(`, `"\("\(1`, `"\("\(1)`, `"\("\(1)"`, `"\("\(1)")`, `"\("\(1)\(2)"`, `"\(")")`, `"\("(")`, `"a\("b\("c`, `"\([)`, `"\({)a`,
	} {
		checkFault(t, s, api.ErrQuote, len(s))
		for _, more := range []string{" ", "   "} {
			checkFault(t, s+more, api.ErrQuote, len(s+more))
		}
	}
	checkFault(t, `"\`, api.ErrEscape, 1)
	checkFault(t, `"\\\`, api.ErrEscape, 3)
	checkFault(t, `"\u`, api.ErrEscape, 1)
	checkFault(t, `"\u004`, api.ErrEscape, 1)
	checkFault(t, `"\ud83d`, api.ErrPair, 1)
	checkFault(t, `"\ud83d\`, api.ErrPair, 1)
	checkFault(t, `"\ud83d\ude0`, api.ErrPair, 1)
	checkFault(t, `"\(1)\`, api.ErrEscape, 5)
	checkFault(t, "\"\xc3", api.ErrUTF, 1)
	checkFault(t, `"\(\`, api.ErrWords, 3)
}

func TestP16_1TheFirstFaultCounts(t *testing.T) {
	faults := []struct {
		s  string
		e  api.Errno
		at int
	}{{"&", api.ErrWords, 0}, {"$", api.ErrWords, 0}, {"!", api.ErrWords, 0}, {"01", api.ErrNumber, 0}, {`"\q"`, api.ErrEscape, 1}, {"\"\x01\"", api.ErrControl, 1}, {"\"\xff\"", api.ErrUTF, 1}, {`"\udfff"`, api.ErrPair, 1}, {`"\(1a)"`, api.ErrNumber, 3}, {`"\(1)` + "\n", api.ErrControl, 5}, {`"\("\q")"`, api.ErrEscape, 4}, {"\"\\(\x80", api.ErrWords, 3}}
	for _, first := range faults {
		for _, second := range faults {
			checkFault(t, first.s+" "+second.s, first.e, first.at)
			checkFault(t, first.s+" .a,(\"x\") "+second.s, first.e, first.at)
			checkFault(t, `"a\(`+first.s+" "+second.s, first.e, 4+first.at)
			checkFault(t, `"a\(1)b\(`+first.s+`)`+second.s, first.e, 9+first.at)
		}
		checkFault(t, first.s+` "`, first.e, first.at)
		checkFault(t, `"\(`+first.s, first.e, 3+first.at)
		checkFault(t, "(((("+first.s, first.e, 4+first.at)
	}
	checkFault(t, "\"\x01\xff\\q", api.ErrControl, 1)
	checkFault(t, "\"\xff\x01\\q", api.ErrUTF, 1)
	checkFault(t, "\"\\q\x01\xff", api.ErrEscape, 1)
	checkFault(t, "\"\\ud800\x01", api.ErrPair, 1)
	checkFault(t, "\"a\\(1)\x01\\(01", api.ErrControl, 6)
}

func TestP16_2NoToken(t *testing.T) {
	checkScan(t, "", nil, api.OK, 0)
	short(empty+"#", 5, func(s string) { checkScan(t, s, nil, api.OK, 0) })
	for _, s := range []string{"#", "# x", "#\n", "# x\n", "##", "#\n#", "# a\r b \" \\( & $ 01", "#\r\n", "# \"", "#\r1", "#\x00\xff\n\t#é", " # ) ( \n "} {
		checkScan(t, s, nil, api.OK, 0)
		checkScan(t, s+"\n1", []api.Token{number(len(s)+1, "1")}, api.OK, 0)
		checkScan(t, "1"+s, []api.Token{number(0, "1")}, api.OK, 0)
		checkScan(t, `"\(`+s+"\n)\"", []api.Token{tok(word.Begin, 0, 3, ""), tok(word.End, 4+len(s), 6+len(s), "")}, api.OK, 0)
	}
}

// A remark ends ahead of a line feed, and at nothing else.
func TestP16_2Remarks(t *testing.T) {
	eachByte(func(b string) {
		if b == "\n" {
			checkScan(t, "#"+b+"1", []api.Token{number(2, "1")}, api.OK, 0)
			return
		}
		checkScan(t, "#"+b+"1", nil, api.OK, 0)
		checkTokens(t, "a#"+b+"1\nb", name(0, "a"), name(5, "b"))
	})
	checkScan(t, "a#b", []api.Token{name(0, "a")}, api.OK, 0)
	checkScan(t, "1#2", []api.Token{number(0, "1")}, api.OK, 0)
}

func TestP16_2Blanks(t *testing.T) {
	eachByte(func(b string) {
		if strings.Contains(empty, b) {
			checkTokens(t, "a"+b+"b", name(0, "a"), name(2, "b"))
			checkTokens(t, b+b+"a", name(2, "a"))
		}
		checkWords(t, "a"+b+"b")
		checkWords(t, b+"a")
		checkWords(t, "a"+b)
	})
}

func TestP16_2Names(t *testing.T) {
	for _, s := range []string{"a", "z", "A", "Z", "_", "__", "_1", "a0", "a9", "x1y2", "map", "_x1", "If", "IF", "Null", "nul", "not", "in", "import", "select", strings.Repeat("long_", 100)} {
		checkTokens(t, s, name(0, s))
		checkTokens(t, "."+s, tok(word.Field, 0, 1+len(s), s))
		checkTokens(t, "$"+s, tok(word.Var, 0, 1+len(s), s))
	}
	eachByte(func(b string) {
		switch {
		case strings.Contains(letters, b):
			checkTokens(t, b, name(0, b))
			checkTokens(t, "."+b, tok(word.Field, 0, 2, b))
			fallthrough
		case strings.Contains(digits, b):
			checkTokens(t, "q"+b, name(0, "q"+b))
			checkTokens(t, ".a"+b+"c", tok(word.Field, 0, 4, "a"+b+"c"))
			checkTokens(t, "$a"+b+"c", tok(word.Var, 0, 4, "a"+b+"c"))
		default:
			checkWords(t, "a"+b+"c")
			checkWords(t, ".a"+b+"c")
			checkWords(t, "$a"+b+"c")
		}
	})
	checkTokens(t, "a.b$c d", name(0, "a"), tok(word.Field, 1, 3, "b"), tok(word.Var, 3, 5, "c"), name(6, "d"))
	checkTokens(t, "$a$b.c.d", tok(word.Var, 0, 2, "a"), tok(word.Var, 2, 4, "b"), tok(word.Field, 4, 6, "c"), tok(word.Field, 6, 8, "d"))
	checkTokens(t, `a"b"c`, name(0, "a"), tok(word.Text, 1, 4, "b"), name(4, "c"))
}

func TestP16_2OwnWords(t *testing.T) {
	for _, own := range ownWords() {
		checkTokens(t, own, tok(word.Own, 0, len(own), own))
		checkTokens(t, "."+own, tok(word.Field, 0, 1+len(own), own))
		checkTokens(t, ". "+own, mark(0, "."), tok(word.Own, 2, 2+len(own), own))
		checkTokens(t, ".."+own, mark(0, ".."), tok(word.Own, 2, 2+len(own), own))
		for _, more := range []string{"a", "_", "1", "Z", own, "0"} {
			checkTokens(t, own+more, name(0, own+more))
			checkTokens(t, "$"+own+more, tok(word.Var, 0, 1+len(own+more), own+more))
			checkTokens(t, "."+own+more, tok(word.Field, 0, 1+len(own+more), own+more))
		}
		for _, less := range []string{"a", "_", "Z", "x1"} {
			checkTokens(t, less+own, name(0, less+own))
			checkTokens(t, "$"+less+own, tok(word.Var, 0, 1+len(less+own), less+own))
			checkTokens(t, "."+less+own, tok(word.Field, 0, 1+len(less+own), less+own))
		}
		for n := 1; n < len(own); n++ {
			checkWords(t, own[:n])
			checkWords(t, own[n:])
			checkWords(t, "$"+own[:n])
			upper := own[:n] + strings.ToUpper(own[n:])
			checkTokens(t, upper, name(0, upper))
		}
		checkTokens(t, own+" "+own, tok(word.Own, 0, len(own), own), tok(word.Own, 1+len(own), 1+2*len(own), own))
		checkTokens(t, own+".a", tok(word.Own, 0, len(own), own), tok(word.Field, len(own), 2+len(own), "a"))
	}
	if len(ownWords()) != 18 {
		t.Error("words are missing")
	}
}

// Each mark has its text and its places; two of them, one right behind the other, begin with the longest one that stands there.
func TestP16_2Marks(t *testing.T) {
	if len(marks()) != 33 {
		t.Error("marks are missing")
	}
	for _, a := range marks() {
		checkScan(t, a, []api.Token{mark(0, a)}, api.OK, 0)
		checkScan(t, " "+a+" ", []api.Token{mark(1, a)}, api.OK, 0)
		if a != "(" && a != ")" {
			checkTokens(t, a, mark(0, a))
			checkTokens(t, a+"\""+a+"\"", mark(0, a), tok(word.Text, len(a), 2+2*len(a), a))
		}
		for _, b := range marks() {
			checkScan(t, a+" "+b, []api.Token{mark(0, a), mark(1+len(a), b)}, api.OK, 0)
			checkWords(t, a+b)
			checkWords(t, "1"+a+b)
			if longestMark(a+b) == a {
				checkScan(t, a+b, []api.Token{mark(0, a), mark(len(a), b)}, api.OK, 0)
			}
			for _, c := range marks() {
				checkWords(t, a+b+c)
			}
		}
		if a != "." {
			checkScan(t, a+"a", []api.Token{mark(0, a), name(len(a), "a")}, api.OK, 0)
		}
		checkScan(t, a+"7", []api.Token{mark(0, a), number(len(a), "7")}, api.OK, 0)
		checkScan(t, "a"+a, []api.Token{name(0, "a"), mark(1, a)}, api.OK, 0)
		checkScan(t, a+"#"+a, []api.Token{mark(0, a)}, api.OK, 0)
	}
}

func TestP16_2LongestMarks(t *testing.T) {
	for _, c := range []struct {
		s    string
		want string
	}{
		{"//=", "//="}, {"///", "// /"}, {"////", "// //"}, {"///=", "// /="}, {"////=", "// //="}, {"//==", "//= ="}, {"/=", "/="}, {"/==", "/= ="}, {"/ /=", "/ /="}, {"// =", "// ="},
		{"|=", "|="}, {"||=", "| |="}, {"|==", "|= ="}, {"===", "== ="}, {"====", "== =="}, {"<==", "<= ="}, {"<>", "< >"}, {">==", ">= ="}, {">>=", "> >="}, {"<-", "< -"}, {"=<", "= <"}, {"=!=", "= !="}, {"!==", "!= ="},
		{"+=+", "+= +"}, {"++=", "+ +="}, {"-=-", "-= -"}, {"--", "- -"}, {"*=*", "*= *"}, {"**", "* *"}, {"%=%", "%= %"}, {"%%=", "% %="},
		{"...", ".. ."}, {"....", ".. .."}, {".....", ".. .. ."}, {".[.]?", ". [ . ] ?"}, {"?//", "? //"}, {"?//=", "? //="}, {"()[]{}", "( ) [ ] { }"}, {":;,", ": ; ,"}, {"::", ": :"}, {",,", ", ,"}, {"[[", "[ ["}, {"?.?", "? . ?"},
	} {
		var want []api.Token
		at := 0
		for _, m := range strings.Fields(c.want) {
			at += strings.Index(c.s[at:], m)
			want = append(want, mark(at, m))
			at += len(m)
		}
		checkTokens(t, c.s, want...)
	}
}

func TestP16_2Dots(t *testing.T) {
	checkTokens(t, ".", mark(0, "."))
	checkTokens(t, ".a", tok(word.Field, 0, 2, "a"))
	checkTokens(t, "._", tok(word.Field, 0, 2, "_"))
	checkTokens(t, "._1", tok(word.Field, 0, 3, "_1"))
	checkTokens(t, ".1", mark(0, "."), number(1, "1"))
	checkTokens(t, ".0", mark(0, "."), number(1, "0"))
	checkTokens(t, "..1", mark(0, ".."), number(2, "1"))
	checkTokens(t, ". .", mark(0, "."), mark(2, "."))
	checkTokens(t, ".\n.a", mark(0, "."), tok(word.Field, 2, 4, "a"))
	checkTokens(t, "...a", mark(0, ".."), tok(word.Field, 2, 4, "a"))
	checkTokens(t, "....a", mark(0, ".."), mark(2, ".."), name(4, "a"))
	checkTokens(t, ".a.b", tok(word.Field, 0, 2, "a"), tok(word.Field, 2, 4, "b"))
	checkTokens(t, ".a..b", tok(word.Field, 0, 2, "a"), mark(2, ".."), name(4, "b"))
	checkTokens(t, "a.", name(0, "a"), mark(1, "."))
	checkTokens(t, ".a.", tok(word.Field, 0, 2, "a"), mark(2, "."))
	checkTokens(t, "$a.", tok(word.Var, 0, 2, "a"), mark(2, "."))
	checkTokens(t, "a.1", name(0, "a"), mark(1, "."), number(2, "1"))
	checkTokens(t, ".$a", mark(0, "."), tok(word.Var, 1, 3, "a"))
	checkTokens(t, `."a"`, mark(0, "."), tok(word.Text, 1, 4, "a"))
	checkTokens(t, `."a\(1)"`, mark(0, "."), tok(word.Begin, 1, 5, "a"), number(5, "1"), tok(word.End, 6, 8, ""))
	checkTokens(t, ".[]", mark(0, "."), mark(1, "["), mark(2, "]"))
	checkTokens(t, ".#\na", mark(0, "."), name(3, "a"))
}

func TestP16_2Numbers(t *testing.T) {
	for _, s := range []string{"0", "1", "9", "10", "90", "123", "9223372036854775807", "9223372036854775808", "18446744073709551616", "9" + strings.Repeat("0", 400)} {
		checkTokens(t, s, number(0, s))
		checkTokens(t, "-"+s, mark(0, "-"), number(1, s))
		checkTokens(t, "["+s+"]", mark(0, "["), number(1, s), mark(1+len(s), "]"))
		checkTokens(t, s+"-"+s, number(0, s), mark(len(s), "-"), number(len(s)+1, s))
		checkTokens(t, s+"$a", number(0, s), tok(word.Var, len(s), len(s)+2, "a"))
		checkTokens(t, s+`"a"`, number(0, s), tok(word.Text, len(s), len(s)+3, "a"))
		checkTokens(t, s+" .a", number(0, s), tok(word.Field, len(s)+1, len(s)+3, "a"))
		eachByte(func(b string) {
			checkWords(t, s+b)
			checkWords(t, s+b+"1")
		})
	}
}

func TestP16_2Texts(t *testing.T) {
	whole := spokenPart{}
	for _, part := range append(spokenParts(), spokenPart{}, spokenPart{`\uD83D\uDE00`, "😀"}, spokenPart{`\ud7ff\ue000\uffff`, "\ud7ff\ue000\uffff"}, spokenPart{`\udbff\udfff`, "\U0010ffff"}, spokenPart{"\u0080߿ࠀ\uffff\U00010000\U0010ffff", "\u0080߿ࠀ\uffff\U00010000\U0010ffff"}, spokenPart{`\u0028\u0029`, "()"}, spokenPart{"# no remark", "# no remark"}, spokenPart{"( ) [ ] $ & ! 01", "( ) [ ] $ & ! 01"}, spokenPart{`\\\\(`, `\\(`}, spokenPart{`\"(`, `"(`}) {
		checkTokens(t, `"`+part.written+`"`, tok(word.Text, 0, 2+len(part.written), part.said))
		checkPieces(t, part)
		whole.written += part.written
		whole.said += part.said
	}
	checkTokens(t, `"`+whole.written+`"`, tok(word.Text, 0, 2+len(whole.written), whole.said))
	checkPieces(t, whole)
	for b := byte(' '); b < 128; b++ {
		if s := string(b); b != '"' && b != '\\' {
			checkTokens(t, `"`+s+`"`, tok(word.Text, 0, 3, s))
			checkPieces(t, spokenPart{s, s})
		}
	}
	checkTokens(t, `"a""b"`, tok(word.Text, 0, 3, "a"), tok(word.Text, 3, 6, "b"))
	checkTokens(t, `""""`, tok(word.Text, 0, 2, ""), tok(word.Text, 2, 4, ""))
}

// checkPieces holds a piece as Begin, Mid and End.
func checkPieces(t *testing.T, part spokenPart) {
	t.Helper()
	n := len(part.written)
	checkTokens(t, `"`+part.written+`\(1)"`, tok(word.Begin, 0, n+3, part.said), number(n+3, "1"), tok(word.End, n+4, n+6, ""))
	checkTokens(t, `"\(1)`+part.written+`"`, tok(word.Begin, 0, 3, ""), number(3, "1"), tok(word.End, 4, n+6, part.said))
	checkTokens(t, `"\(1)`+part.written+`\(2)"`, tok(word.Begin, 0, 3, ""), number(3, "1"), tok(word.Mid, 4, n+7, part.said), number(n+7, "2"), tok(word.End, n+8, n+10, ""))
}

func TestP16_2FiltersWithin(t *testing.T) {
	checkTokens(t, `"\()"`, tok(word.Begin, 0, 3, ""), tok(word.End, 3, 5, ""))
	checkTokens(t, `"\( )"`, tok(word.Begin, 0, 3, ""), tok(word.End, 4, 6, ""))
	checkTokens(t, `"\()\()\()"`, tok(word.Begin, 0, 3, ""), tok(word.Mid, 3, 6, ""), tok(word.Mid, 6, 9, ""), tok(word.End, 9, 11, ""))
	checkTokens(t, `"a\(1)b\(2)c\(3)d"`, tok(word.Begin, 0, 4, "a"), number(4, "1"), tok(word.Mid, 5, 9, "b"), number(9, "2"), tok(word.Mid, 10, 14, "c"), number(14, "3"), tok(word.End, 15, 18, "d"))
	checkTokens(t, `"\(1)""\(2)"`, tok(word.Begin, 0, 3, ""), number(3, "1"), tok(word.End, 4, 6, ""), tok(word.Begin, 6, 9, ""), number(9, "2"), tok(word.End, 10, 12, ""))
	checkTokens(t, `"\((()))"`, tok(word.Begin, 0, 3, ""), mark(3, "("), mark(4, "("), mark(5, ")"), mark(6, ")"), tok(word.End, 7, 9, ""))
	checkTokens(t, `"\(()())"`, tok(word.Begin, 0, 3, ""), mark(3, "("), mark(4, ")"), mark(5, "("), mark(6, ")"), tok(word.End, 7, 9, ""))
	checkTokens(t, `"\(())\(())"`, tok(word.Begin, 0, 3, ""), mark(3, "("), mark(4, ")"), tok(word.Mid, 5, 8, ""), mark(8, "("), mark(9, ")"), tok(word.End, 10, 12, ""))
	checkTokens(t, `"\(("a\(()))b"))c"`, tok(word.Begin, 0, 3, ""), mark(3, "("), tok(word.Begin, 4, 8, "a"), mark(8, "("), mark(9, ")"), tok(word.End, 10, 14, ")b"), mark(14, ")"), tok(word.End, 15, 18, "c"))
	checkTokens(t, `"\("(")"`, tok(word.Begin, 0, 3, ""), tok(word.Text, 3, 6, "("), tok(word.End, 6, 8, ""))
	checkTokens(t, `"\(")")"`, tok(word.Begin, 0, 3, ""), tok(word.Text, 3, 6, ")"), tok(word.End, 6, 8, ""))
	checkTokens(t, `"\(]}[{)"`, tok(word.Begin, 0, 3, ""), mark(3, "]"), mark(4, "}"), mark(5, "["), mark(6, "{"), tok(word.End, 7, 9, ""))
	checkTokens(t, "\"\\(#)\n)\"", tok(word.Begin, 0, 3, ""), tok(word.End, 6, 8, ""))
	checkTokens(t, "\"\\((#)\n))\"", tok(word.Begin, 0, 3, ""), mark(3, "("), mark(7, ")"), tok(word.End, 8, 10, ""))
	checkTokens(t, "\"\\(#(\n)\"", tok(word.Begin, 0, 3, ""), tok(word.End, 6, 8, ""))
	checkTokens(t, "\"\\(#\"\n1 # )\" \n\t)#\"", tok(word.Begin, 0, 3, ""), number(6, "1"), tok(word.End, 15, 18, "#"))
	checkTokens(t, `"a\(if . then "b\($c)d" else f(.g; "") end)h"`,
		tok(word.Begin, 0, 4, "a"), tok(word.Own, 4, 6, "if"), mark(7, "."), tok(word.Own, 9, 13, "then"), tok(word.Begin, 14, 18, "b"), tok(word.Var, 18, 20, "c"), tok(word.End, 20, 23, "d"),
		tok(word.Own, 24, 28, "else"), name(29, "f"), mark(30, "("), tok(word.Field, 31, 33, "g"), mark(33, ";"), tok(word.Text, 35, 37, ""), mark(37, ")"), tok(word.Own, 39, 42, "end"), tok(word.End, 42, 45, "h"))
}

// Outside texts brackets aren't counted.
func TestP16_2BracketsOutside(t *testing.T) {
	short("()", 8, func(s string) {
		var want []api.Token
		for i := range len(s) {
			want = append(want, mark(i, s[i:i+1]))
		}
		checkScan(t, s, want, api.OK, 0)
		text := []api.Token{tok(word.Begin, 0, 3, ""), number(3, "1"), tok(word.End, 4, 6, "")}
		checkScan(t, s+`"\(1)"`+s, slices.Concat(want, moved(text, len(s)), moved(want, len(s)+6)), api.OK, 0)
	})
	for _, s := range []string{"]", "}", ")", "))", `"a")`, ")(", "1)", `"\(1)")`, "][}{)("} {
		if got, e, at := word.Scan(s); e != api.OK || at != 0 || got[len(got)-1].End != len(s) {
			t.Errorf("Scan(%q) = %v, %d, %d", s, got, e, at)
		}
		checkWords(t, s)
	}
}

func TestP16_2LaidTokens(t *testing.T) {
	r := newRand(162)
	for range 20000 {
		s, want := drawnFilter(r)
		checkScan(t, s, want, api.OK, 0)
	}
}

func TestP16_2AsTheWordsSay(t *testing.T) {
	for _, s := range drawn(20000) {
		checkWords(t, s)
	}
	eachByte(func(a string) {
		checkWords(t, a)
		eachByte(func(b string) {
			checkWords(t, a+b)
			checkWords(t, `"`+a+b)
		})
	})
	short("\"\\()a", 7, func(s string) { checkWords(t, s) })
	short("\"\\(#\n1)$", 5, func(s string) { checkWords(t, s) })
	short(".a1$ _", 6, func(s string) { checkWords(t, s) })
	short("if/=!.|", 5, func(s string) { checkWords(t, s) })
	short("\"\\u\x1f\xc3\xa9(", 5, func(s string) { checkWords(t, `"`+s) })
}

func TestP16_3Names(t *testing.T) {
	for _, c := range []struct {
		s            string
		named, plain bool
	}{
		{"", false, false}, {" ", false, false}, {"a", true, true}, {"Z", true, true}, {"_", true, true}, {"_x1", true, true}, {"map", true, true}, {"1", false, false}, {"1x", false, false}, {"a1", true, true}, {"a-b", false, false}, {"a b", false, false}, {" a", false, false}, {"a ", false, false}, {"a\n", false, false}, {"$a", false, false}, {".a", false, false}, {"a.b", false, false}, {"a.", false, false}, {"é", false, false}, {"aé", false, false}, {"a\x00", false, false}, {"\x00", false, false}, {"\xff", false, false}, {"a\xff", false, false}, {`"a"`, false, false}, {"a#", false, false}, {"If", true, true}, {"IF", true, true}, {"iff", true, true}, {"nulls", true, true}, {"_if", true, true}, {"if ", false, false}, {"-", false, false}, {"..", false, false},
	} {
		if word.Named(c.s) != c.named || word.Plain(c.s) != c.plain {
			t.Errorf("Named, Plain of %q: %v, %v", c.s, word.Named(c.s), word.Plain(c.s))
		}
	}
	for _, own := range ownWords() {
		if !word.Named(own) || word.Plain(own) {
			t.Errorf("Named, Plain of %q: %v, %v", own, word.Named(own), word.Plain(own))
		}
		for _, s := range []string{own + "_", "_" + own, own + own, strings.ToUpper(own), own[:1] + "_" + own[1:]} {
			if !word.Named(s) || !word.Plain(s) {
				t.Errorf("Named, Plain of %q: %v, %v", s, word.Named(s), word.Plain(s))
			}
		}
		for _, s := range []string{own + " ", " " + own, "$" + own, "." + own, own + "-", "1" + own, own + "\x00"} {
			if word.Named(s) || word.Plain(s) {
				t.Errorf("Named, Plain of %q: %v, %v", s, word.Named(s), word.Plain(s))
			}
		}
	}
	eachByte(func(a string) {
		checkNames(t, a)
		eachByte(func(b string) {
			checkNames(t, a+b)
			checkNames(t, "x"+a+b)
		})
	})
}

// checkNames holds Named and Plain against the chapter's words.
func checkNames(t *testing.T, s string) {
	t.Helper()
	if named := isNamed(s); word.Named(s) != named || word.Plain(s) != (named && !isOwn(s)) {
		t.Errorf("Named, Plain of %q: %v, %v", s, word.Named(s), word.Plain(s))
	}
}
