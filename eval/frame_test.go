package eval

import "testing"

// framed are frames of the levels from 0 on, the one without names ahead.
func framed(many int) []*frame {
	out := []*frame{noNames()}
	for range many {
		out = append(out, out[len(out)-1].with(meaning{}))
	}
	return out
}

// steps is how many frames are gone by on the way to a level.
func steps(f *frame, level int) int {
	many := 0
	for ; f.level > level; many++ {
		if f.far.level >= level {
			f = f.far
		} else {
			f = f.around
		}
	}
	return many
}

func TestFrames(t *testing.T) {
	all := framed(1 << 12)
	for i, f := range all {
		if f.level != i || i > 0 && f.around != all[i-1] {
			t.Fatalf("frame %d is of level %d", i, f.level)
		}
	}
	for i := 0; i < len(all); i += 7 {
		for level := 0; level <= i; level++ {
			if all[i].at(level) != all[level] {
				t.Fatalf("from frame %d level %d isn't found", i, level)
			}
		}
	}
}

// Of very many frames few are gone by, wherever one begins and ends.
func TestFramesFewSteps(t *testing.T) {
	all := framed(1 << 16)
	most := 0
	for i := 1; i < len(all); i += 97 {
		for level := 0; level <= i; level += 1 + i/50 {
			most = max(most, steps(all[i], level))
		}
	}
	if most > 50 {
		t.Errorf("up to %d frames are gone by", most)
	}
}
