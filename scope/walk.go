package scope

import "hallmark/api"

// frame is names that are seen from one part on inwards, and the frame around that part.
type frame struct {
	names  []name
	around *frame
}

// walk goes through the parts of a filter, each ahead of its kids, with what the part in hand sees.
type walk struct {
	inner *frame
	// seen is in how many frames from inner outwards a name stands: as many frames may lie in one another as parts, too many to be gone through for each name that is asked for.
	seen map[name]int
	// look is told each part, and says whether to go on.
	look func(part *api.Node) bool
}

func newWalk() *walk { return &walk{seen: map[name]int{}} }

// part goes through a part and its kids, and says whether to go on.
func (w *walk) part(n *api.Node) bool {
	if !w.look(n) {
		return false
	}
	for i := range n.Kids {
		if !w.kid(n, i) {
			return false
		}
	}
	return true
}

// kid goes through a kid of a part, in a frame of its own if it sees more than the part.
func (w *walk) kid(n *api.Node, at int) bool {
	if names := added(n, at); len(names) > 0 {
		w.enter(names)
		defer w.leave()
	}
	return w.part(&n.Kids[at])
}

func (w *walk) enter(names []name) {
	w.inner = &frame{names: names, around: w.inner}
	for _, x := range names {
		w.seen[x]++
	}
}

func (w *walk) leave() {
	for _, x := range w.inner.names {
		w.seen[x]--
	}
	w.inner = w.inner.around
}

// stands says whether a name that the part in hand asks for stands for something.
func (w *walk) stands(x name) bool {
	return w.seen[x] > 0 || x.sort == functions && Builtin(x.text, x.arguments)
}

// fault is what is wrong with the part in hand, its kids aside.
func (w *walk) fault(n *api.Node) api.Errno {
	x, asks := asked(n)
	switch {
	case n.Op == api.Def && taken(defined(n)):
		return api.ErrTaken
	case !asks || w.stands(x):
		return api.OK
	case x.sort == labels:
		return api.ErrLabel
	}
	return api.ErrName
}
