package schema

import (
	"hallmark/api"
	"hallmark/shape"
	"hallmark/tens"
)

// reading is a document while it is read, from above, up to its first fault.
type reading struct {
	way []api.Value // to the part that is looked at
}

// fault is what a reading gives up with: an error, and the way to what is at fault.
type fault struct {
	e   api.Errno
	way []api.Value
}

// caught is the type of a document, or the fault with which its reading gave up.
func caught(v api.Value) (t api.Type, f fault) {
	defer func() {
		if given := recover(); given != nil {
			f = given.(fault)
		}
	}()
	var r reading
	return r.document(v).Type, fault{}
}

// giveUp ends the reading at the part that is looked at, or some steps further inside.
func (r *reading) giveUp(e api.Errno, steps ...api.Value) {
	panic(fault{e, append(r.way, steps...)})
}

// need gives up, if what stands beside a key may not be.
func (r *reading) need(right bool) {
	if !right {
		r.giveUp(api.ErrGiven)
	}
}

func (r *reading) enter(step api.Value) { r.way = append(r.way, step) }

func (r *reading) leave() { r.way = r.way[:len(r.way)-1] }

// place is the step to an item.
func place(at int) api.Value { return number(tens.Of(at)) }

// document is the type of a part that is to be a schema document.
func (r *reading) document(v api.Value) built {
	switch v.Kind {
	case api.True:
		return every()
	case api.False:
		return flat(shape.Never())
	case api.Object:
		return r.object(v)
	}
	r.giveUp(api.ErrSchema)
	return built{}
}

// inner is the type of a document that stands a step further inside.
func (r *reading) inner(step, v api.Value) built {
	r.enter(step)
	out := r.document(v)
	r.leave()
	return out
}

// object is the type of an object that is to be a schema document. All that stands in it is looked at ahead of whether its type may be.
func (r *reading) object(v api.Value) built {
	as := formOf(v)
	p := newPart(r)
	for i, key := range v.Keys {
		r.enter(text(key))
		p.look(as.words, key, v.Items[i])
		r.leave()
	}
	out, exact := as.build(p)
	if !exact || out.beyond() {
		r.giveUp(api.ErrMany)
	}
	return out
}
