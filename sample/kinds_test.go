package sample_test

import (
	"strings"
	"testing"

	"hallmark/api"
	"hallmark/specimen"
)

const (
	plainOfEvery = `null false true 0 1 -1 2 10 -7 100000000000000000000 "" "a" "b" "7" "é" `
	ofEvery      = plainOfEvery + `[] [null] [false] [true] [null,false] [false,true] [true,0] {} {"x":null} {"x":false} {"x":true}`
	ofEveryIn    = plainOfEvery + `[] [null] [true] [1] [null,true] [true,1] [1,"a"] {} {"x":null} {"x":true} {"x":1}`
)

// turned is an array of JSON of n of these values, from one of them on, and from the first again behind the last.
func turned(s string, first, n int) api.Value {
	row, out := js(s), specimen.List()
	for i := range n {
		out.Items = append(out.Items, row[(first+i)%len(row)])
	}
	return out
}

// Every is laid out at the depths 0 and 1, and has four samples from 2 on.
func TestP14_1Every(t *testing.T) {
	is(t, every, ofEvery)
	is(t, laid, ofEvery)
	is(t, anyArray, "[] [null] [false] [true] [null,false] [false,true] [true,0]")
	is(t, anyObject, `{} {"x":null} {"x":false} {"x":true}`)
	for _, a := range []api.Type{every, laid} { // one more than there are: the first comes again
		isRow(t, arrays(a, 27, 27), []api.Value{turned(ofEveryIn, 0, 27), turned(ofEveryIn, 1, 27), turned(ofEveryIn, 2, 27)})
	}
	for deep := range 5 {
		a, want := arrays(every, 6, 6), `[null,true,1,"a",null,true]`
		for range deep + 1 {
			a, want = arrays(a, 1, 1), "["+want+"]"
		}
		if got := samplesOf(a, 0); len(got) != 3 || !specimen.Alike(got[0], js(want)[0]) {
			t.Errorf("%d deep: %v", deep, got)
		}
		check(t, a)
	}
	in := objects(objOf(every, []string{"k!"}, every))
	isRow(t, in, js(`{"k":null} {"k":null,"x":null} {"k":false} {"k":false,"x":false} {"k":true} {"k":true,"x":true}`))
	isRow(t, objects(objOf(never, []string{"l!"}, in)), js(`{"l":{"k":null}} {"l":{"k":null,"x":null}} {"l":{"k":true}}`))
	is(t, arrays(in, 1, 1), `[{"k":null}] [{"k":null,"x":null}] [{"k":true}]`)
}

func TestP14_1Flags(t *testing.T) {
	for bits := range 8 {
		a, want := api.Type{Null: bits&1 > 0, False: bits&2 > 0, True: bits&4 > 0}, ""
		for i, word := range []string{"null ", "false ", "true "} {
			if bits>>i&1 == 1 {
				want += word
			}
		}
		is(t, a, want)
		is(t, with(a, nums("5", "5")), want+"5")
	}
}

func TestP14_1Spans(t *testing.T) {
	far := "123456789012345678901234567890"
	for _, r := range [][3]string{
		{"4", "4", "4"}, {"0", "0", "0"}, {"1", "1", "1"}, {"-7", "-7", "-7"}, {"0", "1", "0 1"}, {"-1", "2", "-1 2 0 1"}, {"-7", "10", "-7 10 0 1 -1 2"}, {"-6", "9", "-6 9 0 1 -1 2"}, {"-8", "11", "-8 11 0 1 -1 2 10 -7"},
		{"3", "", "3 10 100000000000000000000"}, {"10", "", "10 100000000000000000000"}, {"11", "", "11 100000000000000000000"}, {"", "9", "9 0 1 -1 2 -7"}, {"", "0", "0 -1 -7"}, {"", "-2", "-2 -7"}, {"", "-7", "-7"}, {"", "-8", "-8"}, {"", "2", "2 0 1 -1 -7"},
		{"100000000000000000000", "", "100000000000000000000"}, {"100000000000000000001", "", "100000000000000000001"}, {"11", "100000000000000000000", "11 100000000000000000000"}, {"11", "99999999999999999999", "11 99999999999999999999"},
		{far, far, far}, {"-" + far, far, "-" + far + " " + far + " 0 1 -1 2 10 -7 100000000000000000000"}, {far, "", far}, {"", "-" + far, "-" + far}, {"", far, far + " 0 1 -1 2 10 -7 100000000000000000000"}, {"-9223372036854775809", "9223372036854775808", "-9223372036854775809 9223372036854775808 0 1 -1 2 10 -7"},
	} {
		is(t, nums(r[0], r[1]), r[2])
	}
}

// Numbers of 4095 digits weigh just as much as a sample may; the sign counts for none.
func TestP14_1HeavyNumbers(t *testing.T) {
	most, more := strings.Repeat("9", 4095), strings.Repeat("9", 4096)
	is(t, nums(most, most), most)
	is(t, nums("-"+most, most), "-"+most+" "+most+" 0 1 -1 2 10 -7 100000000000000000000")
	is(t, nums(more, ""), "")
	is(t, nums("-"+more, more), "0 1 -1 2 10 -7 100000000000000000000")
	is(t, nums("-"+most, more), "-"+most+" 0 1 -1 2 10 -7 100000000000000000000")
}

func TestP14_1Texts(t *testing.T) {
	is(t, anyText, `"" "a" "b" "7" "é"`)
	is(t, texts("a"), `"a"`)
	is(t, texts(""), `""`)
	is(t, texts("7", "a", "b", "zz", "é"), `"7" "a" "b" "zz" "é"`)
	var many []api.Value
	for _, name := range specimen.Named(100) {
		many = append(many, specimen.Text(name))
	}
	isRow(t, texts(specimen.Named(100)...), many)
	is(t, texts(long(4095)), `"`+long(4095)+`"`)
	is(t, texts("a", long(4095), long(4096), "x"), `"a" "`+long(4095)+`" "x"`)
	is(t, tooHeavy, "")
	is(t, texts(strings.Repeat("é", 2047)), `"`+strings.Repeat("é", 2047)+`"`)
	is(t, texts(strings.Repeat("é", 2048)), "") // its bytes count, not its runes
}

// One kind behind the other, and alternatives in their order.
func TestP14_1Order(t *testing.T) {
	a := with(with(with(both, nums("5", "6")), texts("q")), with(arrays(null, 1, 1), objects(objOf(never, []string{"b!"}, null), objOf(never, []string{"a!"}, null))))
	is(t, a, `null true 5 6 "q" [null] {"b":null} {"a":null}`)
}
