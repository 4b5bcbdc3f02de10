package show_test

import (
	"regexp"
	"strconv"
	"strings"
	"unicode/utf8"

	"hallmark/api"
	"hallmark/utf"
	"hallmark/word"
)

// This file says the chapter's words once more: texts of parts are put together from the texts of their kids, by the chapter's table as it stands there.

// chapterTable has the texts of parts by their Op and how many kids they have: {k i} is k(kid i), {b i} the base, NAME the name. What the table says of Const, Join, Record, Index, Neg, Def and Call goes by functions.
func chapterTable() map[[2]int]string {
	table := map[[2]int]string{
		{api.Self, 0}: ".", {api.List, 0}: "[]", {api.List, 1}: "[{0 0}]",
		{api.Var, 0}: "$NAME", {api.Break, 0}: "break $NAME",
		{api.Slice, 3}: "{b 0}[{0 1}:{0 2}]", {api.Each, 1}: "{b 0}[]",
		{api.Try, 1}: "{b 0}?", {api.Try, 2}: "try {10 0} catch {10 1}",
		{api.Pipe, 2}: "{1 0} | {0 1}", {api.Both, 2}: "{1 0}, {2 1}",
		{api.Else, 2}: "{4 0} // {3 1}", {api.Or, 2}: "{4 0} or {5 1}", {api.And, 2}: "{5 0} and {6 1}",
		{api.If, 3}:      "if {0 0} then {0 1} else {0 2} end",
		{api.Bind, 2}:    "{10 0} as $NAME | {0 1}",
		{api.Reduce, 3}:  "reduce {10 0} as $NAME ({0 1}; {0 2})",
		{api.Foreach, 3}: "foreach {10 0} as $NAME ({0 1}; {0 2})",
		{api.Foreach, 4}: "foreach {10 0} as $NAME ({0 1}; {0 2}; {0 3})",
		{api.Label, 1}:   "label $NAME | {0 0}",
	}
	rows := []struct{ ops, signs, left, right string }{
		{"36 37 38 39 40 41 42 43", "= |= += -= *= /= %= //=", "{3 0}", "{3 1}"},
		{"19 20 21 22 23 24", "== != < <= > >=", "{7 0}", "{7 1}"},
		{"14 15", "+ -", "{7 0}", "{8 1}"},
		{"16 17 18", "* / %", "{8 0}", "{9 1}"},
	}
	for _, row := range rows {
		for i, op := range strings.Fields(row.ops) {
			number, _ := strconv.Atoi(op)
			table[[2]int{number, 2}] = row.left + " " + strings.Fields(row.signs)[i] + " " + row.right
		}
	}
	return table
}

// loosenessList is the chapter's list of Ops by how loose they are; those that aren't in it are 10, but Try with two kids 9.
func loosenessList() [][]int {
	return [][]int{
		{api.Pipe, api.Bind, api.Def, api.Label}, {api.Both},
		{api.Put, api.Update, api.AddTo, api.SubTo, api.MulTo, api.DivTo, api.ModTo, api.ElseTo},
		{api.Else}, {api.Or}, {api.And}, {api.Eq, api.Ne, api.Lt, api.Le, api.Gt, api.Ge},
		{api.Add, api.Sub}, {api.Mul, api.Div, api.Mod}, {api.Neg},
	}
}

// teller tells texts by the table.
type teller struct {
	table map[[2]int][]piece
	loose map[int]int
}

// piece is what stands ahead of a hole in a row of the table, and the hole: no kid goes into it, if k is "".
type piece struct {
	ahead, k string
	kid      int
}

func newTeller() teller {
	w := teller{map[[2]int][]piece{}, map[int]int{}}
	hole := regexp.MustCompile(`\{(b|[0-9]+) ([0-9])\}`)
	for part, row := range chapterTable() {
		for found := hole.FindStringSubmatch(row); found != nil; found = hole.FindStringSubmatch(row) {
			ahead, behind, _ := strings.Cut(row, found[0])
			kid, _ := strconv.Atoi(found[2])
			w.table[part] = append(w.table[part], piece{ahead, found[1], kid})
			row = behind
		}
		w.table[part] = append(w.table[part], piece{ahead: row})
	}
	for k, ops := range loosenessList() {
		for _, op := range ops {
			w.loose[op] = k
		}
	}
	return w
}

func (w teller) loosenessOf(n api.Node) int {
	k, found := w.loose[n.Op]
	switch {
	case found:
		return k
	case n.Op == api.Try && len(n.Kids) == 2:
		return 9
	}
	return 10
}

func (w teller) textOf(n api.Node) string {
	switch n.Op {
	case api.None:
		return ""
	case api.Const:
		return constOf(n.Value)
	case api.Join:
		return w.joinOf(n)
	case api.Record:
		return w.recordOf(n)
	case api.Index:
		return w.indexOf(n)
	case api.Neg:
		kid := w.k(9, n.Kids[0])
		if strings.HasPrefix(kid, "-") {
			kid = " " + kid
		}
		return "-" + kid
	case api.Def:
		return "def " + n.Text + inBrackets(n.Names) + ": " + w.k(0, n.Kids[0]) + "; " + w.k(0, n.Kids[1])
	case api.Call:
		var arguments []string
		for _, kid := range n.Kids {
			arguments = append(arguments, w.k(0, kid))
		}
		return n.Text + inBrackets(arguments)
	}
	out := ""
	for _, x := range w.table[[2]int{n.Op, len(n.Kids)}] {
		out += strings.ReplaceAll(x.ahead, "NAME", n.Text)
		if x.k == "b" {
			out += w.baseOf(n.Kids[x.kid])
		} else if x.k != "" {
			k, _ := strconv.Atoi(x.k)
			out += w.k(k, n.Kids[x.kid])
		}
	}
	return out
}

// k is k(x).
func (w teller) k(k int, x api.Node) string {
	if w.loosenessOf(x) < k {
		return "(" + w.textOf(x) + ")"
	}
	return w.textOf(x)
}

func (w teller) baseOf(n api.Node) string {
	if n.Op == api.Const && n.Value.Kind == api.Number {
		return "(" + w.textOf(n) + ")"
	}
	return w.k(10, n)
}

func inBrackets(all []string) string {
	if len(all) == 0 {
		return ""
	}
	return "(" + strings.Join(all, "; ") + ")"
}

func constOf(v api.Value) string {
	switch v.Kind {
	case api.Number:
		return v.Num
	case api.Text:
		return utf.Quote(v.Text)
	}
	return map[int]string{api.Null: "null", api.False: "false", api.True: "true"}[v.Kind]
}

func (w teller) joinOf(n api.Node) string {
	out := `"`
	for i, kid := range n.Kids {
		if i%2 == 1 {
			out += `\(` + w.k(0, kid) + ")"
		} else {
			out += strings.TrimSuffix(strings.TrimPrefix(utf.Quote(kid.Value.Text), `"`), `"`)
		}
	}
	return out + `"`
}

func (w teller) recordOf(n api.Node) string {
	var entries []string
	for i := 0; i < len(n.Kids); i += 2 {
		key := n.Kids[i]
		told := "(" + w.k(0, key) + ")"
		switch {
		case key.Op == api.Const && key.Value.Kind == api.Text:
			told, _ = keyOf(key.Value.Text)
		case key.Op == api.Join:
			told = w.textOf(key)
		}
		entries = append(entries, told+": "+w.k(3, n.Kids[i+1]))
	}
	return "{" + strings.Join(entries, ", ") + "}"
}

func (w teller) indexOf(n api.Node) string {
	of, key := n.Kids[0], n.Kids[1]
	base := w.baseOf(of)
	switch {
	case key.Op != api.Const || key.Value.Kind != api.Text || !isName(key.Value.Text):
		return base + "[" + w.k(0, key) + "]"
	case of.Op == api.Self:
		return base + key.Value.Text
	}
	return base + "." + key.Value.Text
}

// keyOf is what Key answers.
func keyOf(s string) (string, api.Errno) {
	switch {
	case !utf8.ValidString(s):
		return "", api.ErrShape
	case isName(s):
		return s, api.OK
	}
	return utf.Quote(s), api.OK
}

func isName(s string) bool {
	const digits, others = "0123456789", "abcdefghijklmnopqrstuvwxyzABCDEFGHIJKLMNOPQRSTUVWXYZ_"
	return s != "" && strings.Contains(others, s[:1]) && strings.Trim(s, others+digits) == ""
}

// nestOf is how many words of a filter's text are open inside one another at most.
func nestOf(s string) int {
	words, _, _ := word.Scan(s)
	var open []string
	most := 0
	for i, x := range words {
		top := ""
		if len(open) > 0 {
			top = open[len(open)-1]
		}
		isKey := i+1 < len(words) && words[i+1].Text == ":" // an if or a def has no colon right behind it
		mark, own := x.Kind == word.Mark, x.Kind == word.Own
		switch {
		case mark && strings.Contains("([{", x.Text), x.Kind == word.Begin, own && !isKey && (x.Text == "if" || x.Text == "def"):
			open = append(open, x.Text)
			most = max(most, len(open))
		case mark && strings.Contains(")]}", x.Text), x.Kind == word.End, own && x.Text == "end" && top == "if", mark && x.Text == ";" && top == "def":
			open = open[:len(open)-1]
		}
	}
	return most
}
