package specimen

import (
	"strconv"
	"strings"

	"hallmark/api"
)

// Told is a type as a short text, for people.
func Told(t api.Type) string {
	var out []string
	for i, is := range []bool{t.All, t.Null, t.False, t.True, t.AnyText} {
		if is {
			out = append(out, [...]string{"every", "null", "false", "true", "text"}[i])
		}
	}
	for _, span := range t.Nums {
		out = append(out, span.Low+".."+span.High)
	}
	for _, text := range t.Texts {
		out = append(out, strconv.Quote(text))
	}
	for _, arr := range t.Arrays {
		out = append(out, "["+strconv.Itoa(arr.Min)+"-"+strconv.Itoa(arr.Max)+" "+Told(arr.Item)+"]")
	}
	for _, obj := range t.Objects {
		out = append(out, toldObj(obj))
	}
	if len(out) == 1 {
		return out[0]
	}
	return "{" + strings.Join(out, " ") + "}"
}

// toldObj is an alternative likewise; it may have more fields than names, or fewer.
func toldObj(o api.Obj) string {
	var out []string
	for i, name := range o.Names {
		if i < len(o.Must) && o.Must[i] {
			name += "!"
		}
		if i < len(o.Fields) {
			name += " " + Told(o.Fields[i])
		}
		out = append(out, name)
	}
	return "O(" + strings.Join(out, ", ") + " | " + Told(o.Rest) + ")"
}
