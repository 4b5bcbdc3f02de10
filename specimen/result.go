package specimen

import (
	"strconv"
	"strings"

	"hallmark/api"
	"hallmark/writer"
)

// ToldResult is what a run has come to as a short text, for people: the outputs, the end, and what is left.
func ToldResult(r api.Result) string {
	var out []string
	for _, v := range r.Outs {
		out = append(out, plainText(v))
	}
	return strings.Join(out, " ") + " " + ToldEnd(r)
}

// ToldEnd is that without the outputs.
func ToldEnd(r api.Result) string {
	end := strconv.Itoa(r.End)
	switch r.End {
	case api.Done:
		end = "done"
	case api.Failed:
		end = "failed with " + plainText(r.Fault)
	case api.Spent:
		end = "spent"
	}
	if r.End != api.Failed && !Alike(r.Fault, api.Value{}) {
		end += " beside a fault"
	}
	return end + ", left " + strconv.Itoa(r.Left)
}

// plainText is a value as a document.
func plainText(v api.Value) string {
	s, e := writer.Text(v)
	if e != api.OK {
		return "no value"
	}
	return s
}

// PlacesOfResults are the places of all lists in results, those of their outputs too.
func PlacesOfResults(results ...api.Result) Places {
	var all []api.Value
	for _, r := range results {
		all = append(all, List(r.Outs...), r.Fault)
	}
	return PlacesOf(all...)
}

// ScribbleResult writes into all lists of a result, and into their spare room.
func ScribbleResult(r api.Result) {
	Scribble(List(r.Outs...))
	Scribble(r.Fault)
}
