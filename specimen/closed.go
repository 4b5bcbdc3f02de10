package specimen

import (
	"slices"
	"strings"

	"hallmark/api"
)

// ClosedFilter is a well shaped filter without changes, with at most so many parts around one another, each name of which stands for something. Most of its parts fit one another, and its names are few, so that they hide one another and what is built in.
func ClosedFilter(pick Source, deep int) api.Node {
	return sight{pick: pick, names: fewNames()}.part(deep)
}

// ChangingFilter is one with changes among its parts, and with names that changes bind when they are rewritten.
func ChangingFilter(pick Source, deep int) api.Node {
	return sight{pick: pick, names: strings.Fields("_ __ f ___ length empty error"), changes: true}.part(deep)
}

// FittingInputs are values that such filters often fit.
func FittingInputs() []api.Value {
	var out []api.Value
	for _, s := range []string{"null", "1", `"a"`, "[0,1]", "[[1,2],[3]]", `{"a":1,"b":[1]}`, `[{"a":[0]},null]`, `{"a":{"a":"b"},"b":{}}`} {
		out = append(out, JSON(s))
	}
	return out
}

// sight is what a part that is drawn sees of names.
type sight struct {
	pick      Source
	names     []string   // those that its parts bind
	changes   bool       // whether some parts are changes
	functions []api.Node // Calls, with a Self for each argument
	variables []string
	labels    []string
}

// part is a drawn one: often of several outputs, and seldom one that fails, as behind that nothing is seen.
func (s sight) part(deep int) api.Node {
	switch {
	case deep <= 1:
		return s.leaf()
	case s.changes && s.pick(6) == 0:
		return Part(api.Put+s.pick(8), s.places(deep-1), s.part(deep-1))
	}
	switch at := s.pick(32); {
	case at < 2:
		return s.leaf()
	case at < 6:
		return s.call(deep)
	case at < 9:
		return s.binding(deep)
	case at < 12:
		return s.definition(deep)
	case at < 14 && deep > 2:
		return Part(api.Try, s.around(deep-1, api.Index, api.Each, api.Slice))
	case at < 15:
		return s.around(deep, api.Index, api.Each, api.Slice)
	case at < 23:
		return s.around(deep, api.Pipe, api.Pipe, api.Both, api.Both, api.Both, api.If)
	case at < 26:
		return s.around(deep, api.Try, api.Else, api.And, api.Or)
	case at < 29:
		return s.around(deep, api.List, api.List, api.Record, api.Join, api.Neg)
	case at < 30:
		return s.around(deep, api.Add, api.Sub, api.Mul, api.Div, api.Mod)
	}
	return s.around(deep, api.Add, api.Eq, api.Ne, api.Lt, api.Le, api.Gt, api.Ge)
}

// leaf is a part without kids.
func (s sight) leaf() api.Node {
	switch at := s.pick(13); {
	case at < 3:
		return Part(api.Self)
	case at < 5 && len(s.labels) > 0:
		return NamedPart(api.Break, one(s.pick, s.labels))
	case at < 7 && len(s.variables) > 0:
		return NamedPart(api.Var, one(s.pick, s.variables))
	case at < 9:
		return s.callOf(s.called(0), 0)
	case at < 10:
		return Part([...]int{api.List, api.Record}[s.pick(2)])
	}
	return Constant(s.constant())
}

// constant is a value of few.
func (s sight) constant() api.Value {
	all := []api.Value{Num("0"), Num("1"), Num("2"), Num("3"), Num("4"), Num("12"), Text("a"), Text("b"), Text(""), Kind(api.Null), Kind(api.True), Kind(api.False)}
	return all[s.pick(len(all))]
}

// fewNames are those of functions, some of which are built in, of variables and of labels.
func fewNames() []string { return []string{"f", "g", "x", "length", "empty", "error", "range"} }

// called is a Call of a function with so many arguments or, if that is below 0, with any number: often of one that is seen, if there is one.
func (s sight) called(many int) api.Node {
	other := func(call api.Node) bool { return many >= 0 && len(call.Kids) != many }
	all := slices.DeleteFunc(slices.Clone(s.functions), other)
	if len(all) == 0 || s.pick(2) == 0 {
		all = slices.DeleteFunc(builtIns(), other)
	}
	return all[s.pick(len(all))]
}

// builtIns are Calls of functions that are built in, of some of them several.
func builtIns() []api.Node {
	var out []api.Node
	for _, written := range strings.Fields("empty/0 error/0 error/1 error/1 range/2 range/2 range/2 range/2 path/1 path/1 path/1 path/1 getpath/1 getpath/1 length/0 length/0 not/0 not/0 not/0 keys/0 has/1 type/0 type/0 type/0 tostring/0 tojson/0 tojson/0 reverse/0 sort/0 _sort_by/1 _group_by/1 min/0 add/0 setpath/2 delpaths/1 toarray/0 toarray/0 toarray/0 split/1 join/1 indices/1 contains/1") {
		name, many := Function(written)
		out = append(out, NamedPart(api.Call, name, slices.Repeat([]api.Node{Part(api.Self)}, many)...))
	}
	return out
}

func (s sight) call(deep int) api.Node { return s.callOf(s.called(-1), deep) }

// callOf is a Call with arguments that are drawn, of those functions that take few values mostly such that they take.
func (s sight) callOf(n api.Node, deep int) api.Node {
	n.Kids = slices.Clone(n.Kids)
	for i := range n.Kids {
		switch {
		case n.Text == "range" && s.pick(4) > 0:
			n.Kids[i] = Constant(Num([...]string{"0", "1", "2", "3"}[s.pick(2)+2*i]))
		case n.Text == "path" && s.pick(4) > 0:
			n.Kids[i] = s.places(deep - 1)
		case i == 0 && strings.HasSuffix(n.Text, "tpath") && deep > 2 && s.pick(2) == 0:
			n.Kids[i] = Part(api.List, s.part(deep-2))
		default:
			n.Kids[i] = s.part(deep - 1)
		}
	}
	return n
}

// places is a part that names places, mostly.
func (s sight) places(deep int) api.Node {
	self := Part(api.Self)
	if deep <= 3 {
		return [...]api.Node{self, NamedPart(api.Call, "empty"), s.leaf()}[s.pick(3)]
	}
	a, b := s.places(deep-2), s.places(deep-1)
	return [...]api.Node{
		Part(api.Try, Part(api.Each, a)), Part(api.Try, Part(api.Index, a, s.key(api.Index))), Part(api.Pipe, a, b), Part(api.Both, a, b), Part(api.Else, a, b), Part(api.If, self, a, b), s.part(deep),
	}[s.pick(7)]
}

// around is a part of one of these Ops.
func (s sight) around(deep int, ops ...int) api.Node {
	op := ops[s.pick(len(ops))]
	counts := KidCounts(op)
	n := Part(op)
	for range counts[s.pick(min(len(counts), 3))] {
		n.Kids = append(n.Kids, s.part(deep-1))
	}
	for i := range n.Kids {
		switch {
		case op == api.Join && i%2 == 0:
			n.Kids[i] = Constant(Text([...]string{"", "p", "q"}[s.pick(3)]))
		case (op == api.Both || op == api.List) && deep > 2 && s.pick(3) > 0:
			n.Kids[i] = Part(api.Try, s.part(deep-2))
		case op == api.Neg && s.pick(2) > 0:
			n.Kids[i] = Constant(Num("7"))
		case op == api.Record && i%2 == 0 && s.pick(8) > 0, op == api.Index && i == 1 && s.pick(3) > 0:
			n.Kids[i] = s.key(op)
		}
	}
	if end := s.pick(4); op == api.Slice && end > 1 {
		n.Kids[end-1] = api.Node{}
	}
	return n
}

// key is one of a Record, or of an Index.
func (s sight) key(op int) api.Node {
	if op == api.Index && s.pick(2) == 0 {
		return Constant(Num([...]string{"0", "1", "2"}[s.pick(3)]))
	}
	return Constant(Text([...]string{"a", "b"}[s.pick(2)]))
}

// binding is a part that binds a variable or a label.
func (s sight) binding(deep int) api.Node {
	op := [...]int{api.Bind, api.Bind, api.Reduce, api.Foreach, api.Label}[s.pick(5)]
	n, inner := NamedPart(op, one(s.pick, s.names[:3])), s
	first := 1 // kid that sees the name
	switch op {
	case api.Label:
		first, inner.labels = 0, append(slices.Clone(s.labels), n.Text)
	case api.Reduce, api.Foreach:
		first = 2
		fallthrough
	default:
		inner.variables = append(slices.Clone(s.variables), n.Text)
	}
	counts := KidCounts(op)
	for i := range counts[s.pick(len(counts))] {
		if i < first {
			n.Kids = append(n.Kids, s.part(deep-1))
		} else {
			n.Kids = append(n.Kids, inner.part(deep-1))
		}
	}
	return n
}

// definition is a Def, and most often a Call of it behind.
func (s sight) definition(deep int) api.Node {
	name, entries := one(s.pick, s.names), []string(nil)
	for range s.pick(3) {
		entries = append(entries, [...]string{"", "$"}[s.pick(2)]+one(s.pick, s.names))
	}
	call := NamedPart(api.Call, name, slices.Repeat([]api.Node{Part(api.Self)}, len(entries))...)
	outside, body := s.seeing(call), s
	if s.pick(4) == 0 { // seldom, as a definition that calls itself seldom ends
		body = outside
	}
	for _, entry := range entries {
		bare, hasValue := strings.CutPrefix(entry, "$")
		body = body.seeing(NamedPart(api.Call, bare))
		if hasValue {
			body.variables = append(slices.Clone(body.variables), bare)
		}
	}
	rest := outside.part
	if s.pick(3) > 0 && (deep > 2 || len(entries) == 0) {
		rest = func(deep int) api.Node { return outside.callOf(call, deep) }
	}
	return Definition(name, entries, body.part(deep-1), rest(deep-1))
}

// seeing is what is seen with a function besides.
func (s sight) seeing(call api.Node) sight {
	s.functions = append(slices.Clone(s.functions), call)
	return s
}
