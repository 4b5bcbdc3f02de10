package specimen

import (
	"math/big"
	"slices"
	"strconv"
	"strings"

	"hallmark/api"
)

// OfEachKind are three values of each kind, by the kinds' numbers; the numbers are above 0.
func OfEachKind() [7][3]api.Value {
	return [7][3]api.Value{
		{}, {Kind(api.False), Kind(api.False), Kind(api.False)}, {Kind(api.True), Kind(api.True), Kind(api.True)},
		{Num("1"), Num("7"), Num("12")}, {Text(""), Text("a"), Text("é,b")}, {List(), JSON(`[1,"a",[2]]`), JSON(`[null,{"a":1},1]`)}, {Object(nil), JSON(`{"a":1}`), JSON(`{"a":{"b":2},"c":[]}`)},
	}
}

// AllOfEachKind are they, one behind the other.
func AllOfEachKind() []api.Value {
	var out []api.Value
	for _, of := range OfEachKind() {
		out = append(out, of[:]...)
	}
	return out
}

// ByKind are drawn values of each kind.
func ByKind(pick Source, many int) [7][]api.Value {
	var out [7][]api.Value
	for _, v := range WellShaped(pick, many) {
		out[v.Kind] = append(out[v.Kind], v)
	}
	for range many {
		out[api.Text] = append(out[api.Text], Text(DrawnText(pick)))
		out[api.Number] = append(out[api.Number], Num(DrawnNumber(pick)))
		out[api.Object] = append(out[api.Object], DrawnObject(pick, 3))
	}
	return out
}

// DrawnText is of few runes, so that parts of it stand in it several times.
func DrawnText(pick Source) string {
	var out strings.Builder
	for range pick(8) {
		out.WriteString([]string{"a", "b", ",", "é", "😀"}[pick(5)])
	}
	return out.String()
}

// DrawnNumber is small, or one at an edge.
func DrawnNumber(pick Source) string {
	if pick(3) == 0 {
		return one(pick, slices.Concat(Far(), Numbers()))
	}
	return strconv.Itoa(pick(25) - 12)
}

// Far are numbers far beyond any length, most of them near to where a machine's words end.
func Far() []string {
	out := []string{"1" + strings.Repeat("0", 60), "99999999999999999999"}
	for _, bits := range []uint{8, 16, 31, 32, 33, 62, 63, 64, 65, 128} {
		for near := range 5 {
			n := new(big.Int).Lsh(big.NewInt(1), bits)
			out = append(out, n.Add(n, big.NewInt(int64(near-2))).String())
		}
	}
	for _, s := range slices.Clone(out) {
		out = append(out, "-"+s)
	}
	return out
}
