package eval_test

import (
	"slices"
	"strconv"
	"strings"

	"hallmark/api"
	"hallmark/arith"
	"hallmark/path"
	"hallmark/prim"
	"hallmark/specimen"
	"hallmark/value"
)

// What stands in this file says the chapter's words once more, as one reads them: a visit within a visit, names looked for by what they are called, and without fuel: what has been paid is counted, and each fuel is held against that afterwards.

// broken is an ending beside Done, Failed and Spent.
const broken = 3

// ending is how a visit ends.
type ending struct {
	how   int
	fault api.Value
	label int // the visit of a label
}

// place is what a part is visited on, and what it gives.
type place struct {
	v    api.Value
	ways bool // way mode
	way  []api.Value
}

// named is a name with what it stands for.
type named struct {
	name  string // f/1, $x, *l
	value *api.Value
	part  *api.Node // of a definition the Def; of a parameter its part
	isDef bool
	names []named // those that the Def, or the Call that a part was handed to, was visited with
	label int
}

// account is what has been paid and given.
type account struct {
	paid, most, labels int
	outs               []output
}

// output is one of the whole run, with what has been paid up to behind its giving.
type output struct {
	v    api.Value
	way  []api.Value
	paid int
}

// tooDear is what is left with, where more is paid than one looks at; never, where no fuel is enough.
type (
	tooDear struct{}
	never   struct{}
)

func (a *account) pay(price int) {
	a.paid += price
	if a.paid > a.most {
		panic(tooDear{})
	}
}

// visited is a part that is being visited.
type visited struct {
	*account
	n     api.Node
	on    place
	names []named
	calls int
	give  func(x place) ending
}

// of is the visit of a part, and how it ends.
func (s visited) of(n api.Node, on place, names []named, calls int, give func(x place) ending) ending {
	s.pay(1)
	in := visited{s.account, n, on, names, calls, give}
	if on.ways {
		return in.inWays()
	}
	return in.row()
}

// each is what is done for each output of a kid on the input, out of way mode.
func (s visited) each(kid int, do func(x api.Value) ending) ending {
	return s.of(s.n.Kids[kid], place{v: s.on.v}, s.names, s.calls, func(x place) ending { return do(x.v) })
}

// rows is what is done for the outputs of kids, the first one outermost; check is asked of each output ahead of the next kid.
func (s visited) rows(kids []int, got map[int]api.Value, check func(kid int, x api.Value) ending, do func(got map[int]api.Value) ending) ending {
	if len(kids) == 0 {
		return do(got)
	}
	one := func(x api.Value) ending {
		if e := check(kids[0], x); e.how != api.Done {
			return e
		}
		with := map[int]api.Value{kids[0]: x}
		for kid, x := range got {
			with[kid] = x
		}
		return s.rows(kids[1:], with, check, do)
	}
	if s.n.Kids[kids[0]].Op == api.None {
		return one(api.Value{})
	}
	return s.each(kids[0], one)
}

func fine(int, api.Value) ending { return ending{} }

func failed(fault api.Value) ending { return ending{how: api.Failed, fault: fault} }

func failedWith(word string) ending { return failed(specimen.Text(word)) }

// plainly gives a value that isn't made.
func (s visited) plainly(v api.Value) ending { return s.give(place{v: v}) }

func (s visited) made(v api.Value) ending {
	s.pay(value.Weight(v))
	return s.plainly(v)
}

// told gives what arith or prim answers.
func (s visited) told(v, fault api.Value, ok bool) func(give func(v api.Value) ending) ending {
	return func(give func(v api.Value) ending) ending {
		switch {
		case ok:
			return give(v)
		case fault.Kind == api.Text:
			return failed(fault)
		}
		panic(never{})
	}
}

// lookedUp is the innermost thing of a name.
func (s visited) lookedUp(name string) (named, bool) {
	for _, x := range slices.Backward(s.names) {
		if x.name == name {
			return x, true
		}
	}
	return named{}, false
}

// seeing is the names with others behind them.
func seeing(names []named, more ...named) []named { return slices.Concat(names, more) }

func counted(n int) []int {
	var out []int
	for i := range n {
		out = append(out, i)
	}
	return out
}

func truthOf(is bool) api.Value {
	if is {
		return specimen.Kind(api.True)
	}
	return specimen.Kind(api.False)
}

func isTrue(v api.Value) bool { return v.Kind != api.Null && v.Kind != api.False }

// row is the chapter's table.
func (s visited) row() ending {
	n, v := s.n, s.on.v
	switch n.Op {
	case api.Self:
		return s.plainly(v)
	case api.Const:
		return s.plainly(n.Value)
	case api.Var:
		x, _ := s.lookedUp("$" + n.Text)
		return s.plainly(*x.value)
	case api.Join:
		return s.rows(counted(len(n.Kids)), nil, fine, func(got map[int]api.Value) ending {
			text := ""
			for i := range n.Kids {
				text += prim.String(got[i])
			}
			return s.made(specimen.Text(text))
		})
	case api.List:
		out := specimen.List()
		if len(n.Kids) > 0 {
			e := s.each(0, func(x api.Value) ending { out.Items = append(out.Items, x); return ending{} })
			if e.how != api.Done {
				return e
			}
		}
		return s.made(out)
	case api.Record:
		return s.rows(counted(len(n.Kids)), nil, keysAreTexts, s.object)
	case api.Index:
		return s.rows([]int{0, 1}, nil, fine, func(got map[int]api.Value) ending { return s.told(arith.Index(got[0], got[1]))(s.plainly) })
	case api.Slice:
		return s.rows([]int{0, 1, 2}, nil, fine, func(got map[int]api.Value) ending {
			return s.told(arith.Slice(got[0], got[1], got[2]))(func(v api.Value) ending {
				if v.Kind == api.Null {
					return s.plainly(v)
				}
				return s.made(v)
			})
		})
	case api.Each:
		return s.each(0, s.items)
	case api.Neg:
		return s.each(0, func(x api.Value) ending { return s.told(arith.Neg(x))(s.made) })
	case api.Add, api.Sub, api.Mul, api.Div, api.Mod:
		return s.rows([]int{1, 0}, nil, fine, func(got map[int]api.Value) ending { return s.told(arith.Do(n.Op, got[0], got[1]))(s.made) })
	case api.Eq, api.Ne, api.Lt, api.Le, api.Gt, api.Ge:
		return s.rows([]int{1, 0}, nil, fine, func(got map[int]api.Value) ending { return s.told(arith.Do(n.Op, got[0], got[1]))(s.plainly) })
	case api.And:
		return s.each(0, func(a api.Value) ending {
			if !isTrue(a) {
				return s.plainly(truthOf(false))
			}
			return s.each(1, func(b api.Value) ending { return s.plainly(truthOf(isTrue(b))) })
		})
	case api.Or:
		return s.each(0, func(a api.Value) ending {
			if isTrue(a) {
				return s.plainly(truthOf(true))
			}
			return s.each(1, func(b api.Value) ending { return s.plainly(truthOf(isTrue(b))) })
		})
	case api.Reduce:
		return s.reduce()
	case api.Foreach:
		return s.foreach()
	}
	return s.either()
}

func keysAreTexts(kid int, x api.Value) ending {
	if kid%2 == 0 && x.Kind != api.Text {
		return failedWith("key")
	}
	return ending{}
}

func (s visited) object(got map[int]api.Value) ending {
	var keys []string
	var items []api.Value
	for i := 0; i < len(s.n.Kids); i += 2 {
		keys, items = append(keys, got[i].Text), append(items, got[i+1])
	}
	v, _ := value.Make(keys, items)
	return s.made(v)
}

func (s visited) items(of api.Value) ending {
	l, fault, ok := arith.Each(of)
	if !ok {
		return failed(fault)
	}
	for _, item := range l {
		if e := s.plainly(item); e.how != api.Done {
			return e
		}
	}
	return ending{}
}

// last is the last output of a kid on a value, with names; Null, if there is none.
func (s visited) last(kid int, on api.Value, names []named) (api.Value, ending) {
	var out api.Value
	e := s.of(s.n.Kids[kid], place{v: on}, names, s.calls, func(x place) ending { out = x.v; return ending{} })
	return out, e
}

func (s visited) variable(v api.Value) named { return named{name: "$" + s.n.Text, value: &v} }

func (s visited) reduce() ending {
	state, e := s.last(1, s.on.v, s.names)
	if e.how != api.Done {
		return e
	}
	e = s.each(0, func(x api.Value) ending {
		next, e := s.last(2, state, seeing(s.names, s.variable(x)))
		state = next
		return e
	})
	if e.how != api.Done {
		return e
	}
	return s.plainly(state)
}

func (s visited) foreach() ending {
	return s.each(1, func(state api.Value) ending {
		return s.each(0, func(x api.Value) ending {
			names := seeing(s.names, s.variable(x))
			return s.of(s.n.Kids[2], place{v: state}, names, s.calls, func(y place) ending {
				state = y.v
				if len(s.n.Kids) == 3 {
					return s.plainly(y.v)
				}
				return s.of(s.n.Kids[3], place{v: y.v}, names, s.calls, s.give)
			})
		})
	})
}

// either is what goes the same way in way mode: only the mode of what is visited differs.
func (s visited) either() ending {
	n := s.n
	kid := func(i int, on place, names []named) ending { return s.of(n.Kids[i], on, names, s.calls, s.give) }
	switch n.Op {
	case api.Pipe:
		return s.of(n.Kids[0], s.on, s.names, s.calls, func(x place) ending { return kid(1, x, s.names) })
	case api.Both:
		if e := kid(0, s.on, s.names); e.how != api.Done {
			return e
		}
		return kid(1, s.on, s.names)
	case api.If:
		return s.each(0, func(c api.Value) ending {
			if isTrue(c) {
				return kid(1, s.on, s.names)
			}
			return kid(2, s.on, s.names)
		})
	case api.Bind:
		return s.each(0, func(x api.Value) ending { return kid(1, s.on, seeing(s.names, s.variable(x))) })
	case api.Def:
		return kid(1, s.on, seeing(s.names, s.definition()))
	case api.Label:
		s.labels++
		label := s.labels
		e := kid(0, s.on, seeing(s.names, named{name: "*" + n.Text, label: label}))
		if e.how == broken && e.label == label {
			return ending{}
		}
		return e
	case api.Break:
		x, _ := s.lookedUp("*" + n.Text)
		return ending{how: broken, label: x.label}
	case api.Else:
		return s.otherwise()
	case api.Try:
		return s.try()
	}
	return s.call()
}

// inner is a kid's visit whose ending is told apart from that of what its outputs are handed to, which goes through all around (through is set then).
func (s visited) inner(kid int, give func(x place) ending) (e ending, through bool) {
	e = s.of(s.n.Kids[kid], s.on, s.names, s.calls, func(x place) ending {
		e := give(x)
		through = through || e.how != api.Done
		return e
	})
	return e, through
}

func (s visited) otherwise() ending {
	any := false
	e, through := s.inner(0, func(x place) ending {
		if !isTrue(x.v) {
			return ending{}
		}
		any = true
		return s.give(x)
	})
	switch {
	case through || e.how == broken:
		return e
	case any:
		return ending{}
	}
	return s.of(s.n.Kids[1], s.on, s.names, s.calls, s.give)
}

func (s visited) try() ending {
	e, through := s.inner(0, s.give)
	switch {
	case through || e.how != api.Failed:
		return e
	case len(s.n.Kids) == 1:
		return ending{}
	case s.on.ways:
		return failedWith("path")
	}
	return s.of(s.n.Kids[1], place{v: e.fault}, s.names, s.calls, s.give)
}

func (s visited) definition() named {
	return named{name: s.n.Text + "/" + strconv.Itoa(len(s.n.Names)), part: &s.n, isDef: true, names: s.names}
}

// call is the visit of a Call.
func (s visited) call() ending {
	x, found := s.lookedUp(s.n.Text + "/" + strconv.Itoa(len(s.n.Kids)))
	if !found {
		return s.builtIn()
	}
	s.pay(s.calls / 16)
	switch {
	case x.isDef:
		var with []int
		for i, entry := range x.part.Names {
			if entry[0] == '$' {
				with = append(with, i)
			}
		}
		return s.rows(with, nil, fine, func(got map[int]api.Value) ending {
			return s.of(x.part.Kids[0], s.on, s.inBody(x, got), s.calls+1, s.give)
		})
	case x.part != nil:
		return s.of(*x.part, s.on, x.names, s.calls+1, s.give)
	case s.on.ways:
		return failedWith("path")
	}
	return s.plainly(*x.value)
}

// inBody is what the body of a definition sees: what the Def was visited with, itself, and its parameters.
func (s visited) inBody(def named, got map[int]api.Value) []named {
	out := seeing(def.names, def)
	for i, entry := range def.part.Names {
		if bare, has := strings.CutPrefix(entry, "$"); has {
			v := got[i]
			out = append(out, named{name: bare + "/0", value: &v}, named{name: entry, value: &v})
		} else {
			out = append(out, named{name: entry + "/0", part: &s.n.Kids[i], names: s.names})
		}
	}
	return out
}

// builtIn is the visit of a Call of what is built in.
func (s visited) builtIn() ending {
	name := s.n.Text + "/" + strconv.Itoa(len(s.n.Kids))
	switch name {
	case "empty/0":
		return ending{}
	case "error/0":
		return failed(s.on.v)
	case "error/1":
		return s.each(0, failed)
	}
	if s.on.ways {
		return s.wayBuiltIn(name)
	}
	switch name {
	case "range/2":
		return s.rows([]int{1, 0}, nil, fine, func(got map[int]api.Value) ending { return s.numbers(got[0], got[1]) })
	case "path/1":
		return s.of(s.n.Kids[0], place{v: s.on.v, ways: true}, s.names, s.calls, func(x place) ending { return s.made(specimen.List(x.way...)) })
	}
	order := counted(len(s.n.Kids))
	slices.Reverse(order)
	return s.rows(order, nil, fine, func(got map[int]api.Value) ending {
		var args []api.Value
		for i := range s.n.Kids {
			args = append(args, got[i])
		}
		return s.told(prim.Do(s.n.Text, s.on.v, args))(s.made)
	})
}

func (s visited) numbers(from, to api.Value) ending {
	if from.Kind != api.Number || to.Kind != api.Number {
		return failedWith("range")
	}
	for value.Cmp(from, to) < 0 {
		if e := s.made(from); e.how != api.Done {
			return e
		}
		from, _, _ = arith.Do(api.Add, from, specimen.Num("1"))
	}
	return ending{}
}

// inWays is the visit of a part in way mode.
func (s visited) inWays() ending {
	switch s.n.Op {
	case api.Self:
		return s.give(s.on)
	case api.Index:
		return s.of(s.n.Kids[0], s.on, s.names, s.calls, func(of place) ending {
			return s.each(1, func(key api.Value) ending {
				return s.told(arith.Index(of.v, key))(func(v api.Value) ending { return s.give(of.behind(v, key)) })
			})
		})
	case api.Each:
		return s.of(s.n.Kids[0], s.on, s.names, s.calls, s.wayItems)
	case api.Pipe, api.Both, api.Def, api.Label, api.Break, api.If, api.Bind, api.Else, api.Try, api.Call:
		return s.either()
	}
	return failedWith("path")
}

// behind is a place with more keys on the way to it.
func (p place) behind(v api.Value, keys ...api.Value) place {
	return place{v: v, ways: true, way: slices.Concat(p.way, keys)}
}

func (s visited) wayItems(of place) ending {
	l, fault, ok := arith.Each(of.v)
	if !ok {
		return failed(fault)
	}
	for i, item := range l {
		key := specimen.Num(strconv.Itoa(i))
		if of.v.Kind == api.Object {
			key = specimen.Text(of.v.Keys[i])
		}
		if e := s.give(of.behind(item, key)); e.how != api.Done {
			return e
		}
	}
	return ending{}
}

func (s visited) wayBuiltIn(name string) ending {
	if name != "getpath/1" {
		return failedWith("path")
	}
	return s.each(0, func(keys api.Value) ending {
		v, e := path.Get(s.on.v, keys.Items)
		if keys.Kind != api.Array || e != api.OK {
			return failedWith("getpath")
		}
		return s.give(s.on.behind(v, keys.Items...))
	})
}
