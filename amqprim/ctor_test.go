package amqprim_test

import (
	"math"
	"slices"
	"strconv"
	"strings"
	"testing"

	"polyglot/amqprim"
	"polyglot/api"
)

// names are the kinds in the order of their numbers, from 1 on.
var names = strings.Fields("null bool ubyte ushort uint ulong byte short int long float double dec32 dec64 dec128 char time uuid binary string symbol list map array described")

// lastScalar is the number of symbol.
const lastScalar = 21

// kindOf returns the number of a kind.
func kindOf(name string) int {
	return slices.Index(names, name) + 1
}

// nameOf returns the name of a kind, empty if there is no such kind.
func nameOf(kind int) string {
	if kind < 1 || kind > len(names) {
		return ""
	}
	return names[kind-1]
}

// terms are the constructors as the chapter lists them.
var terms = []struct {
	width int
	sized bool
	list  string
}{
	{0, false, "40 null 41 bool 42 bool 43 uint 44 ulong 45 list 00 described"},
	{1, false, "50 ubyte 51 byte 52 uint 53 ulong 54 int 55 long 56 bool"},
	{2, false, "60 ushort 61 short"},
	{4, false, "70 uint 71 int 72 float 73 char 74 dec32"},
	{8, false, "80 ulong 81 long 82 double 83 time 84 dec64"},
	{16, false, "94 dec128 98 uuid"},
	{1, true, "a0 binary a1 string a3 symbol c0 list c1 map e0 array"},
	{4, true, "b0 binary b1 string b3 symbol d0 list d1 map f0 array"},
}

// meantCtors are the constructors by their codes.
var meantCtors = readTerms()

func readTerms() map[int]api.Ctor {
	all := map[int]api.Ctor{}
	for _, term := range terms {
		words := strings.Fields(term.list)
		for i := 0; i < len(words); i += 2 {
			code, err := strconv.ParseInt(words[i], 16, 0)
			if err != nil {
				panic(err)
			}
			kind := kindOf(words[i+1])
			all[int(code)] = api.Ctor{Code: int(code), Kind: kind, Width: term.width, Sized: term.sized, Items: kind > lastScalar}
		}
	}
	return all
}

// codes are all that a byte can say, and others, some of which would be constructors if they were cut, or their sign lost.
func codes() []int {
	l := []int{math.MinInt, math.MinInt + 0x40, -1 << 32, -0x100 + 0x40, -0x56, -0x43, -1, 0x100, 0x140, 0x152, 1<<16 + 0x70, 1<<32 + 0x43, math.MaxInt - 0xbe, math.MaxInt}
	for code := range 256 {
		l = append(l, code)
	}
	return l
}

// P16.1: each constructor, and no other.
func TestOf(t *testing.T) {
	if len(meantCtors) != 40 {
		t.Fatalf("%d constructors", len(meantCtors))
	}
	for _, code := range codes() {
		want, has := meantCtors[code]
		c, is := amqprim.Of(code)
		if c != want || is != has {
			t.Errorf("Of(%#x): %v %v; not %v %v", code, c, is, want, has)
		}
	}
}

// P16.1: one constructor of each group, by hand.
func TestOfByHand(t *testing.T) {
	for _, want := range []api.Ctor{
		{Code: 0x00, Kind: 25, Items: true},
		{Code: 0x40, Kind: 1},
		{Code: 0x45, Kind: 22, Items: true},
		{Code: 0x55, Kind: 10, Width: 1},
		{Code: 0x61, Kind: 8, Width: 2},
		{Code: 0x74, Kind: 13, Width: 4},
		{Code: 0x83, Kind: 17, Width: 8},
		{Code: 0x98, Kind: 18, Width: 16},
		{Code: 0xa3, Kind: 21, Width: 1, Sized: true},
		{Code: 0xc1, Kind: 23, Width: 1, Sized: true, Items: true},
		{Code: 0xb0, Kind: 19, Width: 4, Sized: true},
		{Code: 0xf0, Kind: 24, Width: 4, Sized: true, Items: true},
	} {
		if c, is := amqprim.Of(want.Code); c != want || !is {
			t.Errorf("Of(%#x): %v %v; not %v", want.Code, c, is, want)
		}
	}
}

// P16.1: the codes of each kind, by hand; the one with the fewest bytes first.
func TestCodes(t *testing.T) {
	want := [][]int{
		1: {0x40}, 2: {0x41, 0x42, 0x56}, 3: {0x50}, 4: {0x60}, 5: {0x43, 0x52, 0x70},
		6: {0x44, 0x53, 0x80}, 7: {0x51}, 8: {0x61}, 9: {0x54, 0x71}, 10: {0x55, 0x81},
		11: {0x72}, 12: {0x82}, 13: {0x74}, 14: {0x84}, 15: {0x94}, 16: {0x73}, 17: {0x83}, 18: {0x98},
		19: {0xa0, 0xb0}, 20: {0xa1, 0xb1}, 21: {0xa3, 0xb3},
		22: {0x45, 0xc0, 0xd0}, 23: {0xc1, 0xd1}, 24: {0xe0, 0xf0}, 25: {0x00},
	}
	for kind, codes := range want {
		if got := amqprim.Codes(kind); !slices.Equal(got, codes) {
			t.Errorf("Codes(%d): %x; not %x", kind, got, codes)
		}
	}
	for _, kind := range noKinds {
		if got := amqprim.Codes(kind); len(got) != 0 {
			t.Errorf("Codes(%d): %x", kind, got)
		}
	}
}

// noKinds are no kinds; some would be if they were cut, or their sign lost.
var noKinds = []int{math.MinInt, math.MinInt + 2, -1 << 32, -256 + 5, -20, -2, -1, 0, 26, 27, 0x40, 0x70, 255, 256 + 2, 1<<16 + 5, 1<<32 + 20, math.MaxInt}

// P16.1: each constructor is one of the codes of its kind, once, and those with more bytes come later.
func TestCodesOf(t *testing.T) {
	count := 0
	for kind := range 30 {
		width := -1
		for _, code := range amqprim.Codes(kind) {
			c, is := amqprim.Of(code)
			if !is || c.Kind != kind || c.Width < width {
				t.Errorf("Codes(%d): %x: %v %v", kind, code, c, is)
			}
			width = c.Width
			count++
		}
	}
	if count != len(meantCtors) {
		t.Errorf("%d codes", count)
	}
}

// Rule 3: a list of codes is new memory.
func TestCodesNew(t *testing.T) {
	for kind := range 27 {
		want := slices.Clone(amqprim.Codes(kind))
		l := amqprim.Codes(kind)
		l = l[:cap(l)]
		for i := range l {
			l[i] = -1
		}
		if got := amqprim.Codes(kind); !slices.Equal(got, want) {
			t.Errorf("Codes(%d): %x; not %x", kind, got, want)
		}
	}
}
