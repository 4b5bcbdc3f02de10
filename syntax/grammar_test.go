package syntax_test

import (
	"slices"
	"strings"
	"unicode"

	"hallmark/api"
	"hallmark/word"
)

// What stands in this file reads the chapter's grammar as it stands there, word for word, and goes along words by it in Earley's way: it knows behind each word which ones may come, and of a whole text each way in which the grammar makes it.

const grammarText = `
    pipe    = "def" NAME [ "(" param { ";" param } ")" ] ":" pipe ";" pipe
            | "label" VAR "|" pipe
            | post "as" VAR "|" pipe
            | comma [ "|" pipe ]
    param   = NAME | VAR
    comma   = change { "," change }
    change  = alt [ ( "=" | "|=" | "+=" | "-=" | "*=" | "/=" | "%=" | "//=" ) alt ]
    alt     = or [ "//" alt ]
    or      = and { "or" and }
    and     = compare { "and" compare }
    compare = sum [ ( "==" | "!=" | "<" | "<=" | ">" | ">=" ) sum ]
    sum     = product { ( "+" | "-" ) product }
    product = unary { ( "*" | "/" | "%" ) unary }
    unary   = "-" unary | post
    post    = term { suffix }
    suffix  = FIELD | "." text | "[" pipe "]" | "[" pipe ":" pipe "]" | "[" pipe ":" "]" | "[" ":" pipe "]" | "[" "]" | "?"
    term    = "." [ text ] | ".." | FIELD | NUMBER | "null" | "true" | "false" | text | VAR | "(" pipe ")"
            | "[" [ pipe ] "]" | "{" [ entry { "," entry } ] "}"
            | "if" pipe "then" pipe { "elif" pipe "then" pipe } [ "else" pipe ] "end"
            | "try" post [ "catch" post ]
            | "reduce" post "as" VAR "(" pipe ";" pipe ")"
            | "foreach" post "as" VAR "(" pipe ";" pipe [ ";" pipe ] ")"
            | "break" VAR | NAME [ "(" pipe { ";" pipe } ")" ]
    text    = TEXT | BEGIN pipe { MID pipe } END
    entry   = ( NAME | OWN | TEXT | VAR ) [ ":" alt ] | ( BEGIN pipe { MID pipe } END | "(" pipe ")" ) ":" alt
`

// production is a line of the grammar without brackets of its own: each of these has become a symbol.
type production struct {
	left  string
	right []string
}

// grammar has its productions by what they make; symbols that aren't there are words.
type grammar map[string][]production

// made begins the names of symbols that brackets have become.
const made = "~"

func (g grammar) isWord(symbol string) bool { return g[symbol] == nil }

// readGrammar is the grammar of the text.
func readGrammar() grammar {
	r := ruleReader{fields: strings.Fields(grammarText), out: grammar{}}
	for r.at < len(r.fields) {
		left := r.fields[r.at]
		r.at += 2
		r.choices(left)
	}
	return r.out
}

type ruleReader struct {
	fields []string
	at     int
	fresh  int
	out    grammar
}

// ends says whether a line of choices ends here: at a closing bracket, or ahead of the next rule.
func (r *ruleReader) ends() bool {
	return r.at == len(r.fields) || strings.Contains(")]}", r.fields[r.at]) || r.at+1 < len(r.fields) && r.fields[r.at+1] == "="
}

// choices reads what a symbol may be.
func (r *ruleReader) choices(left string) {
	for {
		var right []string
		for !r.ends() && r.fields[r.at] != "|" {
			right = append(right, r.symbol())
		}
		r.out[left] = append(r.out[left], production{left, right})
		if r.ends() {
			return
		}
		r.at++
	}
}

// symbol reads a symbol, or brackets, which become one.
func (r *ruleReader) symbol() string {
	s := r.fields[r.at]
	r.at++
	if !strings.Contains("([{", s) {
		return s
	}
	r.fresh++
	inner := made + s + strings.Repeat("'", r.fresh)
	r.choices(inner)
	r.at++
	if s == "(" {
		return inner
	}
	if s == "{" {
		for i := range r.out[inner] {
			r.out[inner][i].right = append(r.out[inner][i].right, inner)
		}
	}
	r.out[inner] = append(r.out[inner], production{inner, nil})
	return inner
}

// stands says whether a word of the grammar is this one.
func stands(symbol string, x api.Token) bool {
	if unicode.IsUpper(rune(symbol[0])) {
		kind := slices.Index(strings.Fields("- NAME OWN VAR FIELD NUMBER TEXT BEGIN MID END"), symbol)
		return x.Kind == kind
	}
	return (x.Kind == word.Own || x.Kind == word.Mark) && symbol == `"`+x.Text+`"`
}

// item is a production of which so many symbols have been met, from a word on.
type item struct {
	*production
	met  int
	from int
}

func (i item) next() string {
	if i.met == len(i.right) {
		return ""
	}
	return i.right[i.met]
}

// chart is what is known of the words so far: behind each word, the items that it may stand in.
type chart struct {
	grammar
	words []api.Token
	sets  [][]item
}

// start is the chart of no word.
func (g grammar) start() chart {
	c := chart{grammar: g}
	var first []item
	for i := range g["pipe"] {
		first = append(first, item{production: &g["pipe"][i]})
	}
	c.sets = [][]item{first}
	c.close()
	return c
}

// close puts into the last set what follows from what is in it.
func (c *chart) close() {
	at := len(c.sets) - 1
	seen := map[item]bool{}
	add := func(i item) {
		if !seen[i] {
			seen[i] = true
			c.sets[at] = append(c.sets[at], i)
		}
	}
	first := c.sets[at]
	c.sets[at] = nil
	for _, i := range first {
		add(i)
	}
	for k := 0; k < len(c.sets[at]); k++ {
		i := c.sets[at][k]
		next := i.next()
		if next == "" {
			for _, outer := range c.sets[i.from] {
				if outer.next() == i.left {
					add(item{outer.production, outer.met + 1, outer.from})
				}
			}
			continue
		}
		for p := range c.grammar[next] {
			add(item{&c.grammar[next][p], 0, at})
			if len(c.grammar[next][p].right) == 0 { // what may be nothing is met at once: it may have been, ahead of this item
				add(item{i.production, i.met + 1, i.from})
			}
		}
	}
}

// with is the chart with a word more, and whether it can stand there.
func (c chart) with(x api.Token) (chart, bool) {
	var set []item
	for _, i := range c.sets[len(c.sets)-1] {
		if next := i.next(); next != "" && c.isWord(next) && stands(next, x) {
			set = append(set, item{i.production, i.met + 1, i.from})
		}
	}
	if set == nil {
		return c, false
	}
	out := chart{c.grammar, append(slices.Clip(c.words), x), append(slices.Clip(c.sets), set)}
	out.close()
	return out, true
}

// takes says whether a word could stand behind the last one.
func (c chart) takes(x api.Token) bool {
	return slices.ContainsFunc(c.sets[len(c.sets)-1], func(i item) bool {
		next := i.next()
		return next != "" && c.isWord(next) && stands(next, x)
	})
}

// whole says whether the words are a pipe.
func (c chart) whole() bool {
	return slices.ContainsFunc(c.sets[len(c.sets)-1], func(i item) bool { return i.left == "pipe" && i.from == 0 && i.next() == "" })
}

// tree is how the grammar makes some words: a symbol and what it is made of, or a word.
type tree struct {
	symbol string
	word   api.Token
	kids   []*tree
}

// span is a symbol and the words that it may be made of.
type span struct {
	symbol   string
	from, to int
}

// rest is what is left of a production, and the words that it may be made of.
type rest struct {
	*production
	met, from, to int
}

// forest finds the trees of a chart's words.
type forest struct {
	chart
	whole map[span]bool
	trees map[span][]*tree
	rests map[rest][][]*tree
	right func(t *tree) bool // what no tree may have in it is left out
}

func (c chart) forest(right func(t *tree) bool) []*tree {
	f := forest{chart: c, whole: map[span]bool{}, trees: map[span][]*tree{}, rests: map[rest][][]*tree{}, right: right}
	for at, set := range c.sets {
		for _, i := range set {
			if i.next() == "" {
				f.whole[span{i.left, i.from, at}] = true
			}
		}
	}
	return f.of(span{"pipe", 0, len(c.words)})
}

// of are the trees of a symbol.
func (f *forest) of(s span) []*tree {
	if !f.whole[s] {
		return nil
	}
	if out, known := f.trees[s]; known {
		return out
	}
	var out []*tree
	for p := range f.grammar[s.symbol] {
		for _, kids := range f.ofRest(rest{&f.grammar[s.symbol][p], 0, s.from, s.to}) {
			if t := (&tree{symbol: s.symbol, kids: kids}); f.right(t) {
				out = append(out, t)
			}
		}
	}
	f.trees[s] = out
	return out
}

// ofRest are the rows of trees of what is left of a production; what brackets have become is laid open in them.
func (f *forest) ofRest(r rest) [][]*tree {
	if r.met == len(r.right) {
		if r.from == r.to {
			return [][]*tree{nil}
		}
		return nil
	}
	if out, known := f.rests[r]; known {
		return out
	}
	var out [][]*tree
	symbol := r.right[r.met]
	for middle := r.from; middle <= r.to; middle++ {
		for _, first := range f.firsts(span{symbol, r.from, middle}) {
			for _, behind := range f.ofRest(rest{r.production, r.met + 1, middle, r.to}) {
				out = append(out, append(slices.Clip(first), behind...))
			}
		}
	}
	f.rests[r] = out
	return out
}

// firsts are the rows of trees that a symbol stands for in a row.
func (f *forest) firsts(s span) [][]*tree {
	if f.isWord(s.symbol) {
		if s.to == s.from+1 && stands(s.symbol, f.words[s.from]) {
			return [][]*tree{{{word: f.words[s.from]}}}
		}
		return nil
	}
	var out [][]*tree
	for _, t := range f.of(s) {
		if strings.HasPrefix(s.symbol, made) {
			out = append(out, t.kids)
		} else {
			out = append(out, []*tree{t})
		}
	}
	return out
}
