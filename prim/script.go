package prim

import (
	"slices"
	"strings"
	"unicode/utf8"

	"hallmark/api"
	"hallmark/reader"
	"hallmark/tens"
	"hallmark/utf"
	"hallmark/value"
	"hallmark/writer"
)

// script is an input that is read as a text, where it could be an array as well.
type script string

func (s script) reversed() api.Value {
	runes := utf.Runes(string(s))
	slices.Reverse(runes)
	return text(utf.Text(runes))
}

// places are the numbers of the runes from which on a part stands.
func (s script) places(part script) []int { return utf.Find(string(s), string(part)) }

func (in input) bytes() (api.Value, bool) {
	if !in.are(api.Text) {
		return misfit()
	}
	return given(whole(len(in.v.Text)))
}

func (in input) asText() (api.Value, bool) {
	if in.are(api.Text) {
		return given(text(in.v.Text))
	}
	return in.plain()
}

func (in input) plain() (api.Value, bool) {
	size, _ := writer.Size(in.v)
	weigh(1 + size)
	plain, _ := writer.Text(in.v)
	return given(text(plain))
}

func (in input) read() (api.Value, bool) {
	if !in.are(api.Text) {
		return misfit()
	}
	v, e, _ := reader.One(in.v.Text)
	return went(v, e)
}

func (in input) asNumber() (api.Value, bool) {
	switch {
	case in.are(api.Number):
		return given(number(in.v.Num))
	case in.are(api.Text) && tens.Formed(in.v.Text):
		return given(number(in.v.Text))
	}
	return misfit()
}

func (in input) lower() (api.Value, bool) { return in.rewritten(utf.Lower) }

func (in input) upper() (api.Value, bool) { return in.rewritten(utf.Upper) }

// rewritten is a text as it is written otherwise.
func (in input) rewritten(how func(s string) string) (api.Value, bool) {
	if !in.are(api.Text) {
		return misfit()
	}
	return given(text(how(in.v.Text)))
}

func (in input) runes() (api.Value, bool) {
	if !in.are(api.Text) {
		return misfit()
	}
	return given(array(utf.Runes(in.v.Text), func(r rune) api.Value { return whole(int(r)) }))
}

func (in input) ofRunes() (api.Value, bool) {
	if !in.are(api.Array) {
		return misfit()
	}
	var runes []rune
	for _, item := range in.v.Items {
		n, small := tens.Small(item.Num) // what is no number has an empty one, which isn't small
		if !small || n < 0 || n > utf8.MaxRune || !utf8.ValidRune(rune(n)) {
			return misfit()
		}
		runes = append(runes, rune(n))
	}
	return given(text(utf.Text(runes)))
}

func (in input) begins() (api.Value, bool) { return in.compared(strings.HasPrefix) }

func (in input) ends() (api.Value, bool) { return in.compared(strings.HasSuffix) }

// compared is whether something holds of two texts.
func (in input) compared(how func(s, part string) bool) (api.Value, bool) {
	if !in.are(api.Text, api.Text) {
		return misfit()
	}
	return truth(how(in.v.Text, in.args[0].Text))
}

func (in input) cutFront() (api.Value, bool) { return in.cut(strings.TrimPrefix) }

func (in input) cutBack() (api.Value, bool) { return in.cut(strings.TrimSuffix) }

// cut is a text without another one at an end of it; all else stays as it is.
func (in input) cut(how func(s, part string) string) (api.Value, bool) {
	if in.are(api.Text, api.Text) {
		return given(text(how(in.v.Text, in.args[0].Text)))
	}
	return given(value.Twin(in.v))
}

func (in input) split() (api.Value, bool) {
	if !in.are(api.Text, api.Text) {
		return misfit()
	}
	return given(array(utf.Split(in.v.Text, in.args[0].Text), text))
}

func (in input) joined() (api.Value, bool) {
	if !in.are(api.Array, api.Text) || !row(in.v.Items).all(isBare) {
		return misfit()
	}
	var out strings.Builder
	between := ""
	for _, item := range in.v.Items {
		piece := String(item)
		if item.Kind == api.Null {
			piece = ""
		}
		weigh(1 + out.Len() + len(between) + len(piece))
		out.WriteString(between)
		out.WriteString(piece)
		between = in.args[0].Text
	}
	return given(text(out.String()))
}
