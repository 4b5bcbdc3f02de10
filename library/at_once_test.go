package library_test

import (
	"fmt"
	"slices"
	"strings"
	"sync"
	"testing"

	"hallmark/api"
	"hallmark/library"
	"hallmark/specimen"
	"hallmark/syntax"
)

// The first calls of all, several at once: this file's name puts it ahead of the other tests.
func TestFirstCalls(t *testing.T) {
	const many = 16
	n, _, _ := syntax.Parse("map(.) | walk(leaf_paths)")
	var with, names [many]string
	var crew sync.WaitGroup
	start := make(chan struct{})
	for i := range many {
		crew.Go(func() {
			<-start
			if i%2 == 0 { // half of them ask for the names first
				library.Names()
			}
			out, _, _ := library.With(n)
			with[i] = told(out)
			names[i] = strings.Join(library.Names(), " ")
		})
	}
	close(start)
	crew.Wait()
	if len(slices.Compact(with[:])) > 1 || len(slices.Compact(names[:])) > 1 {
		t.Error("the first calls answer otherwise than one another")
	}
	if !strings.HasPrefix(names[0], "map/1 select/1 ") || !strings.HasPrefix(with[0], "def.map<f>@-1(") {
		t.Errorf("%s and %s", names[0], with[0])
	}
}

func TestSameness(t *testing.T) {
	pick := pickOf(2201)
	var all []api.Node
	for range 300 {
		n := drawnCalls(pick, 5)
		all = append(all, n, specimen.SpoiltFilter(n, pick))
	}
	if !specimen.AtOnce(func() string {
		var out strings.Builder
		for _, n := range all {
			with, e, at := library.With(n)
			fmt.Fprintln(&out, told(with), e, at)
		}
		fmt.Fprintln(&out, library.Names(), library.Text())
		return out.String()
	}) {
		t.Error("the same calls answer otherwise")
	}
}

// The text is read at the first call alone: later ones don't make again what reading it makes.
func TestReadOnce(t *testing.T) {
	n := parsed(t, "first")
	reading := testing.AllocsPerRun(10, func() { syntax.Parse(library.Text() + ".") })
	names := testing.AllocsPerRun(10, func() { library.Names() })
	with := testing.AllocsPerRun(10, func() { library.With(n) })
	if names > reading/10 || with > reading/10 {
		t.Errorf("reading makes %v pieces of memory, Names() %v, With %v", reading, names, with)
	}
}
