package place_test

import (
	"slices"
	"strconv"
	"testing"

	"hallmark/api"
	"hallmark/arith"
	"hallmark/eval"
	"hallmark/path"
	"hallmark/place"
	"hallmark/show"
	"hallmark/specimen"
	"hallmark/value"
)

// changed is a run of a change as the chapter tells it, without what it costs.
type changed struct {
	op   int
	ways api.Result // the ways of a, each an array, and how they end
	from api.Node   // b, as far as it runs on each place
	outs []api.Value
	last []api.Value // what was put at the end of the last way, beside each output
	api.Result
}

// enough is fuel that is enough for all that is looked at here.
const enough = 50000

// changeOf is the run of a change of two plain filters.
func changeOf(op int, a, b api.Node, v api.Value) changed {
	ways, r, _ := eval.Paths(a, v, enough)
	for _, way := range ways {
		r.Outs = append(r.Outs, specimen.List(way...))
	}
	c := changed{op: op, ways: r, from: b}
	if op == api.Update {
		c.loop(v, api.Value{})
		return c
	}
	given, _ := eval.Run(b, v, enough)
	for _, x := range given.Outs {
		if !c.loop(v, x) {
			return c
		}
	}
	c.Result = api.Result{End: given.End, Fault: given.Fault}
	return c
}

// loop goes from place to place, each in what the ones ahead have left, and says whether all went well.
func (c *changed) loop(v, x api.Value) bool {
	var last api.Value
	for _, way := range c.ways.Outs {
		put, fault := c.putAt(v, way.Items, x)
		if fault.Kind == api.Null {
			var e api.Errno
			if v, e = path.Put(v, way.Items, put); e != api.OK {
				fault = specimen.Text("setpath")
			}
		}
		if fault.Kind != api.Null {
			c.Result = api.Result{End: api.Failed, Fault: fault}
			return false
		}
		last = put
	}
	c.Result = api.Result{End: c.ways.End, Fault: c.ways.Fault}
	if c.ways.End == api.Failed {
		return false
	}
	c.outs, c.last = append(c.outs, v), append(c.last, last)
	return true
}

// putAt is what is put at the end of a way, or a fault, which isn't null here.
func (c *changed) putAt(v api.Value, way []api.Value, x api.Value) (api.Value, api.Value) {
	if c.op == api.Put {
		return x, api.Value{}
	}
	there, e := path.Get(v, way)
	switch {
	case e != api.OK:
		return api.Value{}, specimen.Text("getpath")
	case c.op == api.Update:
		r, _ := eval.Run(c.from, there, enough)
		return append([]api.Value{{}}, r.Outs...)[len(r.Outs)], r.Fault
	case c.op == api.ElseTo && value.True(there):
		return there, api.Value{}
	case c.op == api.ElseTo:
		return x, api.Value{}
	}
	made, fault, _ := arith.Do(c.op-api.AddTo+api.Add, there, x)
	return made, fault
}

// places and values are what changes of all Ops are made of; they fail with nothing that is null.
func places() []string {
	return []string{".", ".a", ".a?", ".b.a", ".[]", ".[]?", ".[0]?", ".[1], .[0]", ".[-1]?", ".a, .b", "(.a, .a)?", "..", "empty", ".a, error(1)", "1", ".a?, 1", ".[]?, .a?", ".a.b, .a", ".a, .a.b", ".[2]?, .[]?", ".[]? | .[]?", "first(.[]?)", ".a // .b", "if .a? then .b else . end", "getpath([\"a\", 0])", ".[]? | select(. == 1)", "try error(.) catch ."}
}

func values() []string {
	return []string{".", "1", "0", "null", "empty", "1, 2", "[.]", `"x"`, ".a?", ".[]?", `1, error("x")`, "error(7)", ". + 1", "true, false", "length", "{a: .}"}
}

// inputs are values that such filters often fit.
func inputs() []api.Value {
	out := specimen.FittingInputs()
	for _, s := range []string{"[]", "{}", `[{"a":[0]},null,false]`, `{"a":{"a":2},"b":{}}`, `{"a":false,"b":[null,1]}`, `{"a":[1,{"b":2}]}`} {
		out = append(out, specimen.JSON(s))
	}
	return out
}

// named says whether a way leads to a place, to something above or within it: both are written with places for numbers below 0.
func named(v api.Value, way, q []api.Value) bool {
	for i := range min(len(way), len(q)) {
		key := way[i]
		if at, err := strconv.Atoi(key.Num); v.Kind == api.Array && err == nil && at < 0 {
			key = specimen.Num(strconv.Itoa(at + len(v.Items)))
		}
		if !specimen.Alike(key, q[i]) {
			return false
		}
		v, _ = path.Step(v, q[i])
	}
	return true
}

// checkChange holds the run of a change to how the chapter tells it, and to what follows of that.
func checkChange(t *testing.T, op int, a, b api.Node, v api.Value) api.Result {
	t.Helper()
	n := specimen.Part(op, a, b)
	want := changeOf(op, plain(t, a), plain(t, b), v)
	got, e := place.Run(n, v, api.MaxFuel)
	want.Outs, want.Left = want.outs, got.Left
	if specimen.ToldResult(got) != specimen.ToldResult(want.Result) || e != api.OK {
		t.Errorf("Run(%s) on %s = %s, %d, want %s", shown(n), json(v), specimen.ToldResult(got), e, specimen.ToldResult(want.Result))
		return got
	}
	for i, out := range got.Outs {
		if many := len(want.ways.Outs); many > 0 {
			way := want.ways.Outs[many-1].Items
			if there, _ := path.Get(out, way); !specimen.Alike(there, want.last[i]) && named(v, way, way) {
				t.Errorf("Run(%s) on %s: at the last place of %s stands %s, want %s", shown(n), json(v), json(out), json(there), json(want.last[i]))
			}
		}
		for q, was := range path.All(v) {
			touched := slices.ContainsFunc(want.ways.Outs, func(way api.Value) bool { return named(v, way.Items, q) })
			if is, _ := path.Get(out, q); !touched && !specimen.Alike(is, was) {
				t.Errorf("Run(%s) on %s: at %s, which no way leads to, stands %s in %s", shown(n), json(v), json(specimen.List(q...)), json(is), json(out))
			}
		}
	}
	return got
}

// shown is a filter as a text.
func shown(n api.Node) string {
	s, _ := show.Text(n)
	return s
}

// All changes of some places and some values, on some inputs.
func TestP24_3Changes(t *testing.T) {
	ends, outs := [3]int{}, 0
	for _, op := range changes() {
		for _, a := range places() {
			for _, b := range values() {
				for _, in := range inputs() {
					r := checkChange(t, op, parsed(t, a), parsed(t, b), in)
					ends[r.End]++
					outs += len(r.Outs)
				}
			}
		}
	}
	if ends[api.Done] < 10000 || ends[api.Failed] < 5000 || ends[api.Spent] > 0 || outs < 10000 {
		t.Errorf("ends: %v, outputs: %d", ends, outs)
	}
}

// Each way that is there in a value: what is put there stands there then, and what stood there, put there again, changes nothing.
func TestP24_3GetBehindPut(t *testing.T) {
	pick := pickOf(2441)
	for _, v := range specimen.WellShaped(pick, 60) {
		for way, was := range path.All(v) {
			x := specimen.Drawn(pick, 1)
			in := specimen.List(specimen.List(way...), v, x)
			for s, want := range map[string]api.Value{
				".[0] as $w | .[2] as $x | .[1] | getpath($w) = $x | getpath($w)":        x,
				".[0] as $w | .[2] as $x | .[1] | getpath($w) |= $x | getpath($w)":       x,
				".[0] as $w | .[1] | getpath($w) = getpath($w)":                          v,
				".[0] as $w | .[1] | getpath($w) |= .":                                   v,
				".[0] as $w | .[1] | getpath($w) |= empty | getpath($w)":                 {},
				".[0] as $w | .[1] | getpath($w) //= false | getpath($w) // 0 | [.]":     specimen.List(trueOr(was, "0")),
				".[0] as $w | .[1] | (getpath($w) |= [.]) | getpath($w) |= .[0]":         v,
				".[0] as $w | .[1] | (getpath($w) = 1 | getpath($w) += 2) | getpath($w)": specimen.Num("3"),
			} {
				r, e := place.Run(parsed(t, s), in, api.MaxFuel)
				if len(r.Outs) != 1 || !specimen.Alike(r.Outs[0], want) || e != api.OK {
					t.Errorf("%s on %.300s: %.300s, %d, want %.300s", s, json(in), specimen.ToldResult(r), e, json(want))
				}
			}
		}
	}
}

// trueOr is a value, or a number if it isn't true.
func trueOr(v api.Value, other string) api.Value {
	if value.True(v) {
		return v
	}
	return specimen.Num(other)
}
