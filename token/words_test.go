package token_test

import (
	"encoding/json"
	"math/big"
	"math/rand"
	"regexp"
	"strconv"
	"strings"

	"hallmark/api"
	"hallmark/token"
	"hallmark/utf"
)

// What stands in this file says the chapter's words once more, as plainly as they stand there, by regular expressions: the tests hold the package against it.

var (
	blankRun   = regexp.MustCompile(`^[\x20\x09\x0A\x0D]*`)
	wordRun    = regexp.MustCompile(`^[a-zA-Z_][a-zA-Z0-9_]*`)
	numeralRun = regexp.MustCompile(`^[0-9-][a-zA-Z0-9_+.-]*`)
	rightOne   = regexp.MustCompile(`^-?(0|[1-9][0-9]*)$`)
)

var (
	kindOfMark = map[byte]int{'{': 1, '}': 2, '[': 3, ']': 4, ':': 5, ',': 6}
	kindOfWord = map[string]int{"null": 7, "false": 8, "true": 9}
)

// step is what a sequence gives at one step.
type step struct {
	x api.Token
	e api.Errno
}

// firstOf is the token that begins at a place, or the fault there.
func firstOf(s string, at int) step {
	rest := s[at:]
	mark, isMark := kindOfMark[rest[0]]
	word, numeral := wordRun.FindString(rest), numeralRun.FindString(rest)
	switch {
	case isMark:
		return step{api.Token{Kind: mark, At: at, End: at + 1}, api.OK}
	case rest[0] == '"':
		text, next, e := utf.Unquote(s, at)
		if e != api.OK {
			return step{api.Token{At: next}, e}
		}
		return step{api.Token{Kind: token.Text, At: at, End: next, Text: text}, api.OK}
	case word != "":
		if kind := kindOfWord[word]; kind != 0 {
			return step{api.Token{Kind: kind, At: at, End: at + len(word)}, api.OK}
		}
		return step{api.Token{At: at}, api.ErrWord}
	case numeral != "":
		if !rightOne.MatchString(numeral) {
			return step{api.Token{At: at}, api.ErrNumber}
		}
		worth, _ := new(big.Int).SetString(numeral, 10)
		return step{api.Token{Kind: token.Number, At: at, End: at + len(numeral), Text: worth.String()}, api.OK}
	}
	return step{api.Token{At: at}, api.ErrByte}
}

// stepsOf is what Seq gives.
func stepsOf(s string) []step {
	var out []step
	at := 0
	for {
		at += len(blankRun.FindString(s[at:]))
		if at == len(s) {
			return out
		}
		next := firstOf(s, at)
		out = append(out, next)
		if next.e != api.OK {
			return out
		}
		at = next.x.End
	}
}

// answerOf is what Scan answers.
func answerOf(s string) ([]api.Token, api.Errno, int) {
	var out []api.Token
	for _, next := range stepsOf(s) {
		if next.e != api.OK {
			return nil, next.e, next.x.At
		}
		out = append(out, next.x)
	}
	return out, api.OK, 0
}

// piece is the text of a token, and the token but for its places.
type piece struct {
	bytes string
	kind  int
	text  string
}

func marksAndWords() []piece {
	return []piece{
		{"{", token.OpenObject, ""}, {"}", token.CloseObject, ""}, {"[", token.OpenArray, ""}, {"]", token.CloseArray, ""}, {":", token.Colon, ""}, {",", token.Comma, ""},
		{"null", token.Null, ""}, {"false", token.False, ""}, {"true", token.True, ""},
	}
}

func literal(text string) piece {
	bytes, err := json.Marshal(text)
	if err != nil {
		panic(err)
	}
	return piece{string(bytes), token.Text, text}
}

func numeral(bytes string) piece {
	text := bytes
	if bytes == "-0" {
		text = "0"
	}
	return piece{bytes, token.Number, text}
}

func drawnPiece(r *rand.Rand) piece {
	switch r.Intn(4) {
	case 0:
		return literal([]string{"", "a", "\"", "\\", "a b", "\n\t\r", "null", "1.5", "é", "𝄞😀", "\x00\x7f", "</>", " ", "[1,{\"a\":2}]", strings.Repeat("x", r.Intn(40))}[r.Intn(15)])
	case 1:
		return numeral([]string{"0", "-0", "1", "-1", "9", "-9", "10", "-10", strconv.Itoa(int(r.Int63())), "-" + strconv.Itoa(1+int(r.Int31())), "1" + strings.Repeat("0", r.Intn(50))}[r.Intn(11)])
	}
	all := marksAndWords()
	return all[r.Intn(len(all))]
}

// apart says whether two pieces would run together with nothing between them.
func apart(a, b piece) bool {
	inRun := func(p piece) bool { return p.kind >= token.Null && p.kind <= token.Number }
	switch {
	case !inRun(a) || !inRun(b):
		return false
	case a.kind == token.Number:
		return true
	}
	return b.bytes[0] != '-' // a minus ends a word
}

func drawnBlanks(r *rand.Rand) string {
	out := ""
	for range r.Intn(4) {
		out += string(" \t\n\r"[r.Intn(4)])
	}
	return out
}

// laid puts pieces one behind the other, with blanks between them, ahead of all and behind all.
func laid(pieces []piece, r *rand.Rand) (string, []api.Token) {
	s := drawnBlanks(r)
	var tokens []api.Token
	for i, p := range pieces {
		if i > 0 && apart(pieces[i-1], p) {
			s += " "
		}
		tokens = append(tokens, api.Token{Kind: p.kind, At: len(s), End: len(s) + len(p.bytes), Text: p.text})
		s += p.bytes + drawnBlanks(r)
	}
	return s, tokens
}

func drawnPieces(r *rand.Rand) []piece {
	var out []piece
	for range r.Intn(12) {
		out = append(out, drawnPiece(r))
	}
	return out
}

// spoilt is a text in which some bytes are others, or are gone, or have come in.
func spoilt(s string, r *rand.Rand) string {
	const bytes = "{}[]:,\" \t\n\rnultrefas_AZ019-+.eE\\u/'\x00\x7f\x80\xc8\xff"
	for range 1 + r.Intn(3) {
		at := r.Intn(len(s) + 1)
		other := string(bytes[r.Intn(len(bytes))])
		switch r.Intn(3) {
		case 0:
			s = s[:at] + other + s[at:]
		case 1:
			s = s[:at] + s[min(at+1, len(s)):]
		case 2:
			s = s[:at] + other + s[min(at+1, len(s)):]
		}
	}
	return s
}

// drawn are texts with and without a fault.
func drawn(n int) []string {
	r := rand.New(rand.NewSource(4))
	var out []string
	for range n {
		s, _ := laid(drawnPieces(r), r)
		out = append(out, s, spoilt(s, r))
	}
	return out
}

// short calls with every text of at most so many of these bytes.
func short(bytes string, most int, do func(s string)) {
	var longer func(s string)
	longer = func(s string) {
		do(s)
		if len(s) < most {
			for i := range len(bytes) {
				longer(s + bytes[i:i+1])
			}
		}
	}
	longer("")
}
