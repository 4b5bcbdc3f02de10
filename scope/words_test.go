package scope_test

import (
	"fmt"
	"maps"
	"slices"
	"strings"
	"testing"

	"hallmark/api"
	"hallmark/scope"
	"hallmark/specimen"
)

// builtinWords are the chapter's list.
const builtinWords = `empty/0 error/0 error/1 range/2 path/1 length/0 utf8bytelength/0 not/0 keys/0 has/1 contains/1 type/0 tostring/0 tonumber/0 tojson/0 fromjson/0 ascii_downcase/0 ascii_upcase/0 explode/0 implode/0 startswith/1 endswith/1 ltrimstr/1 rtrimstr/1 split/1 join/1 indices/1 reverse/0 sort/0 _sort_by/1 _group_by/1 _unique_by/1 _min_by/1 _max_by/1 min/0 max/0 unique/0 add/0 flatten/0 transpose/0 getpath/1 setpath/2 delpaths/1 abs/0 toarray/0`

var builtinList = strings.Fields(builtinWords)

func builtins() []string { return builtinList }

// listed says whether a function stands in it.
func listed(name string, arity int) bool {
	return slices.Contains(builtins(), fmt.Sprintf("%s/%d", name, arity))
}

// seer is a part of a filter, and what it sees, written as free names are.
type seer struct {
	n    api.Node
	sees []string
}

// seers are all parts of a filter, each ahead of its kids, these in their order.
func seers(n api.Node, sees []string) []seer {
	out := []seer{{n, sees}}
	for i, kid := range n.Kids {
		out = append(out, seers(kid, slices.Concat(sees, besides(n, i)))...)
	}
	return out
}

// besides is what a kid sees that its part doesn't.
func besides(n api.Node, kid int) []string {
	switch fmt.Sprint(n.Op, " ", kid) {
	case fmt.Sprint(api.Def, " ", 0):
		out := besides(n, 1)
		for _, entry := range n.Names {
			out = append(out, strings.TrimPrefix(entry, "$")+"/0")
			if entry[0] == '$' {
				out = append(out, entry)
			}
		}
		return out
	case fmt.Sprint(api.Def, " ", 1):
		return []string{fmt.Sprintf("%s/%d", n.Text, len(n.Names))}
	case fmt.Sprint(api.Bind, " ", 1), fmt.Sprint(api.Reduce, " ", 2), fmt.Sprint(api.Foreach, " ", 2), fmt.Sprint(api.Foreach, " ", 3):
		return []string{"$" + n.Text}
	case fmt.Sprint(api.Label, " ", 0):
		return []string{"*" + n.Text}
	}
	return nil
}

// asksFor is the name that a part asks for, or none.
func asksFor(n api.Node) string {
	switch n.Op {
	case api.Call:
		return fmt.Sprintf("%s/%d", n.Text, len(n.Kids))
	case api.Var:
		return "$" + n.Text
	case api.Break:
		return "*" + n.Text
	}
	return ""
}

// faultOf is what Check says of one part.
func faultOf(s seer) api.Errno {
	asked, defined := asksFor(s.n), fmt.Sprintf("%s/%d", s.n.Text, len(s.n.Names))
	switch {
	case s.n.Op == api.Def && slices.Contains([]string{"path/1", "getpath/1", "setpath/2"}, defined):
		return api.ErrTaken
	case asked == "" || slices.Contains(s.sees, asked) || slices.Contains(builtins(), asked):
		return api.OK
	case asked[0] == '*':
		return api.ErrLabel
	}
	return api.ErrName
}

// checkOf is Check of a well shaped filter, by the chapter's words.
func checkOf(n api.Node) (api.Errno, int) {
	for _, s := range seers(n, nil) {
		if e := faultOf(s); e != api.OK {
			return e, s.n.At
		}
	}
	return api.OK, 0
}

// freeOf is Free of one.
func freeOf(n api.Node) []string {
	free := map[string]bool{}
	for _, s := range seers(n, nil) {
		if asked := asksFor(s.n); asked != "" && !slices.Contains(s.sees, asked) && !slices.Contains(builtins(), asked) {
			free[asked] = true
		}
	}
	return slices.Sorted(maps.Keys(free))
}

func checks(t *testing.T, n api.Node, e api.Errno, at int) {
	t.Helper()
	if gotE, gotAt := scope.Check(n); gotE != e || gotAt != at {
		t.Errorf("Check(%.500s) = %d, %d, want %d, %d", specimen.ToldFilter(n, true), gotE, gotAt, e, at)
	}
}

func frees(t *testing.T, n api.Node, names ...string) {
	t.Helper()
	if got, e := scope.Free(n); !slices.Equal(got, names) || e != api.OK {
		t.Errorf("Free(%.500s) = %.300q, %d, want %.300q", specimen.ToldFilter(n, true), got, e, names)
	}
}

func refuses(t *testing.T, n api.Node) {
	t.Helper()
	checks(t, n, api.ErrShape, 0)
	if got, e := scope.Free(n); len(got) != 0 || e != api.ErrShape {
		t.Errorf("Free(%.500s) = %.300q, %d", specimen.ToldFilter(n, true), got, e)
	}
}

// follows holds Check and Free of a well shaped filter to one another, as P19.4 has it.
func follows(t *testing.T, n api.Node) {
	t.Helper()
	e, at := scope.Check(n)
	free, fault := scope.Free(n)
	closed := e == api.OK && at == 0
	if fault != api.OK || closed && len(free) > 0 || len(free) == 0 && !closed && e != api.ErrTaken {
		t.Errorf("of %.500s Check = %d, %d, but Free = %.300q, %d", specimen.ToldFilter(n, true), e, at, free, fault)
	}
}

// checkWords holds all that is said of a well shaped filter to the chapter's words.
func checkWords(t *testing.T, n api.Node) {
	t.Helper()
	e, at := checkOf(n)
	checks(t, n, e, at)
	frees(t, n, freeOf(n)...)
	follows(t, n)
}
