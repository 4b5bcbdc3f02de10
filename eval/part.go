package eval

import "hallmark/api"

// part is a part of a filter in memory of its own, of which is known how it is visited and what its name stands for.
type part struct {
	op     int
	text   string
	value  *api.Value // of a Const
	valued []int      // of a Def: which of its parameters have a $
	kids   []part
	stand
}

// stand is what a name stands for, or a part that has none.
type stand struct {
	manner
	level int // of a name: that of its frame
	place int // of a parameter: which part that was handed to the call it is
}

// ready is a well shaped and closed filter ready for runs.
func ready(n *api.Node) *part {
	b := binder{manners: manners(), seen: map[name][]stand{}}
	out := &part{}
	b.part(out, n)
	return out
}

// binder makes parts ready, each ahead of its kids. What a name stands for is the same in all runs, so it isn't looked for in them.
type binder struct {
	manners [api.Break + 1]manner
	level   int              // how many frames the part at hand is visited with
	seen    map[name][]stand // the names that it sees, the innermost of those that are alike last
}

func (b *binder) part(p *part, n *api.Node) {
	p.op, p.text, p.stand = n.Op, n.Text, b.standOf(n)
	switch n.Op {
	case api.Const:
		p.value = &api.Value{Kind: n.Value.Kind, Num: n.Value.Num, Text: n.Value.Text}
	case api.Def:
		p.valued = valued(n.Names)
	}
	p.kids = make([]part, len(n.Kids))
	for i := range n.Kids {
		b.kid(p, n, i)
	}
}

// standOf is what a part stands for.
func (b *binder) standOf(n *api.Node) stand {
	asked, asks := askedBy(n)
	if !asks {
		return stand{manner: b.manners[n.Op]}
	}
	if all := b.seen[asked]; len(all) > 0 {
		return all[len(all)-1]
	}
	return stand{manner: builtIn(asked)}
}

// kid makes a kid of a part ready, with the names that it sees besides.
func (b *binder) kid(p *part, n *api.Node, at int) {
	names, frames := b.added(n, at)
	b.level += frames
	for _, x := range names {
		b.seen[x.name] = append(b.seen[x.name], x.stand)
	}
	b.part(&p.kids[at], &n.Kids[at])
	for _, x := range names {
		b.seen[x.name] = b.seen[x.name][:len(b.seen[x.name])-1]
	}
	b.level -= frames
}
