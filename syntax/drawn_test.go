package syntax_test

import (
	"math/rand"
	"slices"
	"strings"

	"hallmark/api"
	"hallmark/word"
)

func newRand(seed int64) *rand.Rand { return rand.New(rand.NewSource(seed)) }

func oneOf[T any](r *rand.Rand, of []T) T { return of[r.Intn(len(of))] }

func ownWords() []string {
	return strings.Fields("def if then elif else end as reduce foreach try catch and or label break null true false")
}

func marks() []string {
	return strings.Fields(".. //= |= += -= *= /= %= == != <= >= // | , = < > + - * / % . ( ) [ ] { } : ; ?")
}

// oneOfEach is a word of each kind that the grammar tells from others, as it is written.
func oneOfEach() []string {
	return slices.Concat([]string{"f", "$x", ".a", "1", `"t"`, `"b\(`, `)m\(`, `)e"`}, ownWords(), marks())
}

// drawing makes words by the grammar.
type drawing struct {
	*rand.Rand
	grammar
	least map[string]int // how many words a symbol is made of at least
	words []string
	most  int // words, about
}

func newDrawing(r *rand.Rand) *drawing {
	d := &drawing{Rand: r, grammar: chapterGrammar(), least: map[string]int{}}
	for range len(d.grammar) { // each round knows one symbol more at least
		for symbol, all := range d.grammar {
			for _, p := range all {
				if many, known := d.leastOf(p); known && (d.least[symbol] == 0 || many+1 < d.least[symbol]) {
					d.least[symbol] = many + 1 // one more, so that it isn't 0
				}
			}
		}
	}
	return d
}

// leastOf is of how many words a production is made at least, if that is known.
func (d *drawing) leastOf(p production) (int, bool) {
	sum := 0
	for _, symbol := range p.right {
		switch {
		case d.isWord(symbol):
			sum++
		case d.least[symbol] == 0:
			return 0, false
		default:
			sum += d.least[symbol] - 1
		}
	}
	return sum, true
}

// make makes a symbol: of a production drawn, or, where there are words enough, of one of the shortest.
func (d *drawing) make(symbol string) {
	if d.isWord(symbol) {
		d.words = append(d.words, d.spelt(symbol))
		return
	}
	all := d.grammar[symbol]
	p := oneOf(d.Rand, all)
	if p.right == nil || d.least[symbol] == 1 && d.Intn(3) > 0 || len(d.words) > d.most {
		short := slices.DeleteFunc(slices.Clone(all), func(p production) bool { many, _ := d.leastOf(p); return many+1 > d.least[symbol] })
		p = oneOf(d.Rand, short)
	}
	for _, s := range p.right {
		d.make(s)
	}
}

func drawnName(r *rand.Rand) string {
	return oneOf(r, []string{"f", "a", "x", "_", "map", "x1", "iff", "Else", "recurse", "nul"})
}

func drawnPiece(r *rand.Rand) string {
	return oneOf(r, []string{"", "", "p", "é", `\n`, `\"`, `\u0041`, "# (", `\\`, "+", "if"})
}

// spelt is a word of the grammar as it is written.
func (d *drawing) spelt(symbol string) string {
	r := d.Rand
	switch symbol {
	case "NAME":
		return drawnName(r)
	case "OWN":
		return oneOf(r, ownWords())
	case "VAR":
		return "$" + drawnName(r)
	case "FIELD":
		return "." + oneOf(r, append(ownWords(), drawnName(r)))
	case "NUMBER":
		return oneOf(r, []string{"0", "1", "7", "10", "123456789012345678901234567890"})
	case "TEXT":
		return `"` + drawnPiece(r) + `"`
	case "BEGIN":
		return `"` + drawnPiece(r) + `\(`
	case "MID":
		return `)` + drawnPiece(r) + `\(`
	case "END":
		return `)` + drawnPiece(r) + `"`
	}
	return strings.Trim(symbol, `"`)
}

// drawnWords are the words of a filter's text, some more than so many at most.
func (d *drawing) drawnWords(most int) []string {
	d.words, d.most = nil, most
	d.make("pipe")
	return d.words
}

// laid puts words behind one another, with blanks and remarks between them, as few as can be or more.
func laid(r *rand.Rand, words []string) string {
	var out strings.Builder
	for i, x := range words {
		apart := strings.ContainsAny(x[:1], `)]}([{,;"`) || i > 0 && strings.ContainsAny(words[i-1][len(words[i-1])-1:], `)]}([{,;"`)
		switch {
		case r.Intn(3) == 0:
			out.WriteString(oneOf(r, []string{" ", "\n", "\t", "\r\n", "# a remark\n", "  #\n ", "#)\"\n"}))
		case !apart && i > 0:
			out.WriteByte(' ')
		}
		out.WriteString(x)
	}
	if r.Intn(4) == 0 {
		out.WriteString(oneOf(r, []string{" ", "\n", "#", " # the end"}))
	}
	return out.String()
}

// plainly puts words behind one another with a blank between each two.
func plainly(words []string) string { return strings.Join(words, " ") }

// spoilt are words of which some are others, or gone, or have come in, or have changed their places.
func spoilt(r *rand.Rand, words []string) []string {
	out := slices.Clone(words)
	for range 1 + r.Intn(3) {
		at, other := r.Intn(len(out)+1), oneOf(r, oneOfEach())
		last := min(at+1, len(out))
		switch r.Intn(5) {
		case 0:
			out = slices.Insert(out, at, other)
		case 1:
			out = slices.Delete(out, at, last)
		case 2:
			out = slices.Replace(out, at, last, other)
		case 3:
			out = out[:at]
		case 4:
			r.Shuffle(min(len(out)-min(at, len(out)), 2), func(i, k int) { out[at+i], out[at+k] = out[at+k], out[at+i] })
		}
	}
	return out
}

// closed is a text of words with all that must follow so that each text in it ends: the end of a remark, closing brackets, more than are open, and a quote.
func closed(s string) string {
	for range 100 {
		if _, e, _ := word.Scan(s); e != api.ErrQuote {
			break
		}
		s += "\n" + strings.Repeat(")", 70) + `"`
	}
	return s
}
