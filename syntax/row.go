package syntax

import (
	"hallmark/api"
	"hallmark/word"
)

// row is the words of a text, gone along from the left.
type row struct {
	words []api.Token
	taken int // how many words lie behind
	bytes int // how many the text has
}

// here is the next word; where none is left, one of no kind.
func (r *row) here() api.Token {
	if r.taken == len(r.words) {
		return api.Token{}
	}
	return r.words[r.taken]
}

// take goes on behind the next word, which is there.
func (r *row) take() api.Token {
	x := r.here()
	r.taken++
	return x
}

// is says whether the next word is of a kind.
func (r *row) is(kind int) bool { return r.here().Kind == kind }

// says says whether the next word is this mark, or this one of the language's own words. (A text may say the same.)
func (r *row) says(text string) bool {
	x := r.here()
	return (x.Kind == word.Mark || x.Kind == word.Own) && x.Text == text
}

// takes takes the next word, if it is this one, and says whether it was.
func (r *row) takes(text string) bool {
	if !r.says(text) {
		return false
	}
	r.taken++
	return true
}

// must takes the next word, which must be this one.
func (r *row) must(text string) api.Token {
	if !r.says(text) {
		panic(r.fault())
	}
	return r.take()
}

// mustBe takes the next word, which must be of this kind.
func (r *row) mustBe(kind int) api.Token {
	if !r.is(kind) {
		panic(r.fault())
	}
	return r.take()
}

// fault is what is wrong where the next word can't stand.
func (r *row) fault() fault {
	if r.taken == len(r.words) {
		return fault{api.ErrEarly, r.bytes}
	}
	return fault{api.ErrPlace, r.here().At}
}
