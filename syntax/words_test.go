package syntax_test

import (
	"regexp"
	"slices"
	"sync"
	"unicode/utf8"

	"hallmark/api"
	"hallmark/specimen"
	"hallmark/word"
)

// What stands in this file says the chapter's words once more, as plainly as they stand there: what each line of the grammar is read as, what At is, what is nested, and which filters are well shaped.

var chapterGrammar = sync.OnceValue(readGrammar)

// is says whether a tree is a word that is a mark or one of the language's own words.
func (t *tree) is(text string) bool { return t.symbol == "" && stands(`"`+text+`"`, t.word) }

func (t *tree) kind(kind int) bool { return t.symbol == "" && t.word.Kind == kind }

// all are the kids that are made by a line of the grammar.
func (t *tree) all(symbol string) []*tree {
	return slices.DeleteFunc(slices.Clone(t.kids), func(kid *tree) bool { return kid.symbol != symbol })
}

// nodes are the parts of some trees.
func nodes(trees []*tree) []api.Node {
	var out []api.Node
	for _, t := range trees {
		out = append(out, t.node())
	}
	return out
}

// endsOpen says whether a post ends with a try that has no catch, so that one could follow.
func (t *tree) endsOpen() bool {
	term := t.kids[0]
	if len(t.kids) > 1 || !term.kids[0].is("try") {
		return false
	}
	last := term.kids[len(term.kids)-1]
	return len(term.kids) == 2 || last.endsOpen()
}

// nearest says that a "catch" belongs to the nearest "try" that has none, and that the post behind a "try" or "catch" goes as far as it can.
func nearest(t *tree) bool {
	switch {
	case t.symbol == "post" && len(t.kids) > 1:
		return !t.kids[0].kids[0].is("try")
	case t.symbol == "term" && t.kids[0].is("try") && len(t.kids) == 4:
		return !t.kids[1].endsOpen()
	}
	return true
}

// opOfSign is the Op that a word between two parts stands for.
func opOfSign(text string) int {
	for op, sign := range map[int]string{
		api.Pipe: "|", api.Both: ",", api.Add: "+", api.Sub: "-", api.Mul: "*", api.Div: "/", api.Mod: "%", api.Eq: "==", api.Ne: "!=", api.Lt: "<", api.Le: "<=", api.Gt: ">", api.Ge: ">=", api.And: "and", api.Or: "or", api.Else: "//",
		api.Put: "=", api.Update: "|=", api.AddTo: "+=", api.SubTo: "-=", api.MulTo: "*=", api.DivTo: "/=", api.ModTo: "%=", api.ElseTo: "//=",
	} {
		if sign == text {
			return op
		}
	}
	return -1
}

// between is the part of a sign between two others.
func between(left api.Node, sign *tree, right api.Node) api.Node {
	return api.Node{Op: opOfSign(sign.word.Text), At: sign.word.At, Kids: []api.Node{left, right}}
}

func textOf(x api.Token) api.Node {
	return api.Node{Op: api.Const, At: x.At, Value: specimen.Text(x.Text)}
}

func indexOf(at int, of, key api.Node) api.Node {
	return api.Node{Op: api.Index, At: at, Kids: []api.Node{of, key}}
}

func selfAt(at int) api.Node { return api.Node{Op: api.Self, At: at} }

// node is what a tree is read as.
func (t *tree) node() api.Node {
	switch t.symbol {
	case "pipe":
		return t.pipe()
	case "term":
		return t.term()
	case "text":
		return t.text()
	case "post":
		out := t.kids[0].node()
		for _, suffix := range t.kids[1:] {
			out = suffix.behind(out)
		}
		return out
	case "unary":
		if len(t.kids) == 2 {
			return api.Node{Op: api.Neg, At: t.kids[0].word.At, Kids: nodes(t.kids[1:])}
		}
	}
	out := t.kids[0].node() // the lines of operations; of alt the second kid is all that is behind
	for i := 1; i < len(t.kids); i += 2 {
		out = between(out, t.kids[i], t.kids[i+1].node())
	}
	return out
}

func (t *tree) pipe() api.Node {
	first := t.kids[0]
	switch {
	case first.is("def"):
		var names []string
		for _, p := range t.all("param") {
			name := p.kids[0].word.Text
			if p.kids[0].kind(word.Var) {
				name = "$" + name
			}
			names = append(names, name)
		}
		return api.Node{Op: api.Def, At: first.word.At, Text: t.kids[1].word.Text, Names: names, Kids: nodes(t.all("pipe"))}
	case first.is("label"):
		return api.Node{Op: api.Label, At: first.word.At, Text: t.kids[1].word.Text, Kids: nodes(t.all("pipe"))}
	case first.symbol == "post":
		return api.Node{Op: api.Bind, At: t.kids[1].word.At, Text: t.kids[2].word.Text, Kids: []api.Node{first.node(), t.kids[4].node()}}
	case len(t.kids) == 3:
		return between(first.node(), t.kids[1], t.kids[2].node())
	}
	return first.node()
}

// behind is what a suffix makes of what stands ahead of it.
func (t *tree) behind(of api.Node) api.Node {
	first, pipes := t.kids[0], nodes(t.all("pipe"))
	at := first.word.At
	colon := slices.IndexFunc(t.kids, func(kid *tree) bool { return kid.is(":") })
	switch {
	case first.kind(word.Field):
		return indexOf(at, of, textOf(first.word))
	case first.is("."):
		return indexOf(at, of, t.kids[1].node())
	case first.is("?"):
		return api.Node{Op: api.Try, At: at, Kids: []api.Node{of}}
	case len(pipes) == 0:
		return api.Node{Op: api.Each, At: at, Kids: []api.Node{of}}
	case colon < 0:
		return indexOf(at, of, pipes[0])
	}
	from, to := api.Node{}, api.Node{}
	if colon == 2 {
		from, pipes = pipes[0], pipes[1:]
	}
	if len(pipes) == 1 {
		to = pipes[0]
	}
	return api.Node{Op: api.Slice, At: at, Kids: []api.Node{of, from, to}}
}

func (t *tree) text() api.Node {
	if len(t.kids) == 1 {
		return textOf(t.kids[0].word)
	}
	out := api.Node{Op: api.Join, At: t.kids[0].word.At}
	for _, kid := range t.kids {
		if kid.symbol == "pipe" {
			out.Kids = append(out.Kids, kid.node())
		} else {
			out.Kids = append(out.Kids, textOf(kid.word))
		}
	}
	return out
}

func (t *tree) term() api.Node {
	first := t.kids[0]
	if first.symbol == "text" {
		return first.node()
	}
	x := first.word
	switch x.Kind {
	case word.Field:
		return indexOf(x.At, selfAt(x.At), textOf(x))
	case word.Number:
		return api.Node{Op: api.Const, At: x.At, Value: specimen.Num(x.Text)}
	case word.Var:
		return api.Node{Op: api.Var, At: x.At, Text: x.Text}
	case word.Name:
		return api.Node{Op: api.Call, At: x.At, Text: x.Text, Kids: nodes(t.all("pipe"))}
	case word.Mark:
		return t.markedTerm()
	}
	return t.ownTerm()
}

func (t *tree) markedTerm() api.Node {
	at := t.kids[0].word.At
	switch t.kids[0].word.Text {
	case ".":
		if len(t.kids) == 2 {
			return indexOf(at, selfAt(at), t.kids[1].node())
		}
		return selfAt(at)
	case "..":
		return api.Node{Op: api.Call, At: at, Text: "recurse"}
	case "(":
		return t.kids[1].node()
	case "[":
		return api.Node{Op: api.List, At: at, Kids: nodes(t.all("pipe"))}
	}
	out := api.Node{Op: api.Record, At: at}
	for _, entry := range t.all("entry") {
		out.Kids = append(out.Kids, entry.entry()...)
	}
	return out
}

// ownTerm is a term that begins with one of the language's own words.
func (t *tree) ownTerm() api.Node {
	at := t.kids[0].word.At
	switch t.kids[0].word.Text {
	case "null", "false", "true":
		return api.Node{Op: api.Const, At: at, Value: specimen.Kind(slices.Index([]string{"null", "false", "true"}, t.kids[0].word.Text))}
	case "try":
		return api.Node{Op: api.Try, At: at, Kids: nodes(t.all("post"))}
	case "break":
		return api.Node{Op: api.Break, At: at, Text: t.kids[1].word.Text}
	case "reduce":
		return api.Node{Op: api.Reduce, At: at, Text: t.kids[3].word.Text, Kids: append(nodes(t.all("post")), nodes(t.all("pipe"))...)}
	case "foreach":
		return api.Node{Op: api.Foreach, At: at, Text: t.kids[3].word.Text, Kids: append(nodes(t.all("post")), nodes(t.all("pipe"))...)}
	}
	return choiceOf(t.kids)
}

// choiceOf is the If of these kids of a term: its word, a condition, "then", a pipe, and all that is behind.
func choiceOf(kids []*tree) api.Node {
	out := api.Node{Op: api.If, At: kids[0].word.At, Kids: []api.Node{kids[1].node(), kids[3].node()}}
	switch behind := kids[4]; {
	case behind.is("elif"):
		out.Kids = append(out.Kids, choiceOf(kids[4:]))
	case behind.is("else"):
		out.Kids = append(out.Kids, kids[5].node())
	default:
		out.Kids = append(out.Kids, selfAt(behind.word.At))
	}
	return out
}

// entry is a key and its value.
func (t *tree) entry() []api.Node {
	first := t.kids[0]
	var key, value api.Node
	switch {
	case first.is("("):
		key = t.kids[1].node()
	case first.kind(word.Begin):
		key = (&tree{symbol: "text", kids: slices.DeleteFunc(slices.Clone(t.kids), func(kid *tree) bool { return kid.is(":") || kid.symbol == "alt" })}).text()
	default:
		key = textOf(first.word)
		value = indexOf(first.word.At, selfAt(first.word.At), textOf(first.word))
		if first.kind(word.Var) {
			value = api.Node{Op: api.Var, At: first.word.At, Text: first.word.Text}
		}
	}
	if alt := t.all("alt"); len(alt) > 0 {
		value = alt[0].node()
	}
	return []api.Node{key, value}
}

// tooDeep is which word opens something inside 64 others that are open, or -1. It hangs on words alone that can stand: behind the first that can't it says nothing.
func tooDeep(words []api.Token) int {
	var open []string
	for i, x := range words {
		inner := ""
		if len(open) > 0 {
			inner = open[len(open)-1]
		}
		switch {
		case inner == "{" && x.Kind == word.Own && (words[i-1].Text == "{" || words[i-1].Text == ",") && words[i-1].Kind == word.Mark:
			continue // a key
		case x.Kind == word.Begin, x.Kind == word.Mark && slices.Contains([]string{"(", "[", "{"}, x.Text), x.Kind == word.Own && (x.Text == "if" || x.Text == "def"):
			if len(open) == api.MaxNest {
				return i
			}
			open = append(open, x.Text)
		case x.Kind == word.End, x.Kind == word.Mark && slices.Contains([]string{")", "]", "}"}, x.Text), x.Kind == word.Own && x.Text == "end", x.Kind == word.Mark && x.Text == ";" && inner == "def":
			open = open[:max(len(open)-1, 0)]
		}
	}
	return -1
}

// answerOf is what Parse answers. Many trees are a fault of this file.
func answerOf(s string) (api.Node, api.Errno, int) {
	words, e, at := word.Scan(s)
	if e != api.OK {
		return api.Node{}, e, at
	}
	deep := tooDeep(words)
	c := chapterGrammar().start()
	for i, x := range words {
		next, can := c.with(x)
		switch {
		case !can:
			return api.Node{}, api.ErrPlace, x.At
		case i == deep:
			return api.Node{}, api.ErrNest, x.At
		}
		c = next
	}
	if !c.whole() {
		return api.Node{}, api.ErrEarly, len(s)
	}
	trees := c.forest(nearest)
	if len(trees) != 1 {
		panic("a text has many trees, or none: " + s)
	}
	return trees[0].node(), api.OK, 0
}

// isName says whether word.Plain takes a text.
func isName(s string) bool { return word.Plain(s) }

func isParameter(s string) bool { return isName(s) || len(s) > 0 && s[0] == '$' && isName(s[1:]) }

// row is a line of the chapter's table: how many kids, and what else.
type row struct {
	ops   []int
	many  func(kids int) bool
	named bool
}

func exactly(numbers ...int) func(int) bool {
	return func(kids int) bool { return slices.Contains(numbers, kids) }
}

func table() []row {
	twos := []int{api.Pipe, api.Both, api.Add, api.Sub, api.Mul, api.Div, api.Mod, api.Eq, api.Ne, api.Lt, api.Le, api.Gt, api.Ge, api.And, api.Or, api.Else}
	changes := []int{api.Put, api.Update, api.AddTo, api.SubTo, api.MulTo, api.DivTo, api.ModTo, api.ElseTo}
	return []row{
		{[]int{api.Self, api.Const}, exactly(0), false},
		{[]int{api.Join}, func(kids int) bool { return kids >= 3 && kids%2 == 1 }, false},
		{[]int{api.List}, exactly(0, 1), false},
		{[]int{api.Record}, func(kids int) bool { return kids%2 == 0 }, false},
		{[]int{api.Var, api.Break}, exactly(0), true},
		{[]int{api.Index}, exactly(2), false},
		{[]int{api.Slice}, exactly(3), false},
		{[]int{api.Each, api.Neg}, exactly(1), false},
		{[]int{api.Try}, exactly(1, 2), false},
		{twos, exactly(2), false},
		{[]int{api.If}, exactly(3), false},
		{[]int{api.Bind}, exactly(2), true},
		{[]int{api.Reduce}, exactly(3), true},
		{[]int{api.Foreach}, exactly(3, 4), true},
		{[]int{api.Def}, exactly(2), true},
		{[]int{api.Call}, func(int) bool { return true }, true},
		{[]int{api.Label}, exactly(1), true},
		{changes, exactly(2), false},
	}
}

// formedOf says whether a filter is well shaped.
func formedOf(n api.Node) bool {
	at := slices.IndexFunc(table(), func(r row) bool { return slices.Contains(r.ops, n.Op) })
	if at < 0 {
		return false
	}
	r := table()[at]
	if !r.many(len(n.Kids)) || r.named != isName(n.Text) || !r.named && n.Text != "" {
		return false
	}
	if n.Op != api.Const && !specimen.Alike(n.Value, api.Value{}) || n.Op != api.Def && len(n.Names) > 0 {
		return false
	}
	if n.Op == api.Const && !isSaid(n.Value) || slices.ContainsFunc(n.Names, func(s string) bool { return !isParameter(s) }) {
		return false
	}
	return kidsFormed(n)
}

func kidsFormed(n api.Node) bool {
	none := func(kid api.Node) bool { return specimen.AlikeFilters(kid, api.Node{}) }
	for i, kid := range n.Kids {
		switch {
		case n.Op == api.Slice && i == 1 && none(kid) && !none(n.Kids[2]), n.Op == api.Slice && i == 2 && none(kid) && !none(n.Kids[1]):
		case !formedOf(kid):
			return false
		case n.Op == api.Join && i%2 == 0 && (kid.Op != api.Const || kid.Value.Kind != api.Text):
			return false
		}
	}
	return true
}

var numberShape = regexp.MustCompile(`^(?:0|[1-9][0-9]*)$`)

// isSaid says whether a value may stand in a Const.
func isSaid(v api.Value) bool {
	for _, wrong := range []bool{v.Kind < api.Null, v.Kind > api.Text, v.Kind != api.Number && v.Num != "", v.Kind != api.Text && v.Text != "", len(v.Items) > 0, len(v.Keys) > 0} {
		if wrong {
			return false
		}
	}
	return (v.Kind != api.Number || numberShape.MatchString(v.Num)) && utf8.ValidString(v.Text)
}
