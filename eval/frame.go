package eval

import "hallmark/api"

// frame is what a name stands for in a visit, and the frame around it. A part is always visited with as many frames, so that a name's frame is found by its level.
type frame struct {
	meaning
	level  int
	around *frame
	far    *frame // one further out, so that few frames are gone by on the way to a level, however many lie on it
}

// meaning is what stands in a frame.
type meaning struct {
	value *api.Value // of a variable, or a parameter with $
	end   step       // of a label: what is to be done when its visit is Done
	part  *part      // of a definition its Def; of a call it, whose kids the parameters without $ stand for
	names *frame     // of a call: those that it was visited with
}

func noNames() *frame {
	none := &frame{}
	none.around, none.far = none, none
	return none
}

// with is the frames with another one inside them.
func (f *frame) with(m meaning) *frame {
	out := &frame{meaning: m, level: f.level + 1, around: f, far: f}
	if f.level-f.far.level == f.far.level-f.far.far.level { // two of the same length are put together
		out.far = f.far.far
	}
	return out
}

// at is the frame of a level.
func (f *frame) at(level int) *frame {
	for f.level > level {
		if f.far.level >= level {
			f = f.far
		} else {
			f = f.around
		}
	}
	return f
}
