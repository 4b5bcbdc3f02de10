package utf

import (
	"iter"
	"slices"
)

// Find tells the numbers of the pieces from whose beginning on a part stands in a text.
func Find(s, part string) []int {
	var found []int
	ahead := slices.Collect(places(s, part)) // those that no piece has come to
	number := 0
	for i := range s {
		for len(ahead) > 0 && ahead[0] < i { // within the piece before
			ahead = ahead[1:]
		}
		if len(ahead) > 0 && ahead[0] == i {
			found = append(found, number)
		}
		number++
	}
	return found
}

// Split is what stands ahead of, between and behind the places at which a part is met.
func Split(s, part string) []string {
	if s == "" {
		return nil
	}
	if part == "" {
		return pieces(s)
	}
	var texts []string
	begin := 0
	for at := range places(s, part) {
		if at >= begin {
			texts = append(texts, s[begin:at])
			begin = at + len(part)
		}
	}
	return append(texts, s[begin:])
}

// pieces are the pieces of a text that isn't empty.
func pieces(s string) []string {
	var out []string
	begin := 0
	for i := range s {
		if i > begin {
			out = append(out, s[begin:i])
			begin = i
		}
	}
	return append(out, s[begin:])
}

// places are those from which on the bytes of part stand in s, rising; none, if part is empty. What they cost doesn't grow with what overlaps: no byte of s is gone back to.
func places(s, part string) iter.Seq[int] {
	return func(yield func(int) bool) {
		if part == "" || len(part) > len(s) {
			return
		}
		borders := bordersOf(part)
		met := 0 // bytes of part that stand just ahead
		for i := range len(s) {
			met = goOn(part, borders, met, s[i])
			if met == len(part) && !yield(i+1-len(part)) {
				return
			}
		}
	}
}

// goOn is how many bytes of part, from its beginning on, stand at the end of a text that met of them ended, when b comes behind it.
func goOn(part string, borders []int, met int, b byte) int {
	for met > 0 && (met == len(part) || part[met] != b) {
		met = borders[met-1]
	}
	if part[met] == b {
		met++
	}
	return met
}

// bordersOf tells of each beginning of part how many bytes the longest shorter one has that is its end as well.
func bordersOf(part string) []int {
	borders := make([]int, len(part))
	for i := 1; i < len(part); i++ {
		borders[i] = goOn(part, borders, borders[i-1], part[i])
	}
	return borders
}
