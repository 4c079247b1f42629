package amqprim

import (
	"cmp"
	"slices"

	"polyglot/api"
)

const (
	textWidth = 16   // the bytes of a dec128 and a uuid, which stand for no number of api.Value
	trueCode  = 0x41 // the only constructor without data that stands for another number than 0
)

// table returns all constructors in the order of their codes, by which Of searches it. Those of one kind are thereby in the order of their number of bytes, too.
func table() [40]api.Ctor {
	return [...]api.Ctor{
		{Code: 0x00, Kind: api.KindDescribed, Items: true},
		{Code: 0x40, Kind: api.KindNull},
		{Code: trueCode, Kind: api.KindBool},
		{Code: 0x42, Kind: api.KindBool},
		{Code: 0x43, Kind: api.KindUint},
		{Code: 0x44, Kind: api.KindUlong},
		{Code: 0x45, Kind: api.KindList, Items: true},
		{Code: 0x50, Kind: api.KindUbyte, Width: 1},
		{Code: 0x51, Kind: api.KindByte, Width: 1},
		{Code: 0x52, Kind: api.KindUint, Width: 1},
		{Code: 0x53, Kind: api.KindUlong, Width: 1},
		{Code: 0x54, Kind: api.KindInt, Width: 1},
		{Code: 0x55, Kind: api.KindLong, Width: 1},
		{Code: 0x56, Kind: api.KindBool, Width: 1},
		{Code: 0x60, Kind: api.KindUshort, Width: 2},
		{Code: 0x61, Kind: api.KindShort, Width: 2},
		{Code: 0x70, Kind: api.KindUint, Width: 4},
		{Code: 0x71, Kind: api.KindInt, Width: 4},
		{Code: 0x72, Kind: api.KindFloat, Width: 4},
		{Code: 0x73, Kind: api.KindChar, Width: 4},
		{Code: 0x74, Kind: api.KindDec32, Width: 4},
		{Code: 0x80, Kind: api.KindUlong, Width: 8},
		{Code: 0x81, Kind: api.KindLong, Width: 8},
		{Code: 0x82, Kind: api.KindDouble, Width: 8},
		{Code: 0x83, Kind: api.KindTime, Width: 8},
		{Code: 0x84, Kind: api.KindDec64, Width: 8},
		{Code: 0x94, Kind: api.KindDec128, Width: textWidth},
		{Code: 0x98, Kind: api.KindUuid, Width: textWidth},
		{Code: 0xa0, Kind: api.KindBinary, Width: 1, Sized: true},
		{Code: 0xa1, Kind: api.KindString, Width: 1, Sized: true},
		{Code: 0xa3, Kind: api.KindSymbol, Width: 1, Sized: true},
		{Code: 0xb0, Kind: api.KindBinary, Width: 4, Sized: true},
		{Code: 0xb1, Kind: api.KindString, Width: 4, Sized: true},
		{Code: 0xb3, Kind: api.KindSymbol, Width: 4, Sized: true},
		{Code: 0xc0, Kind: api.KindList, Width: 1, Sized: true, Items: true},
		{Code: 0xc1, Kind: api.KindMap, Width: 1, Sized: true, Items: true},
		{Code: 0xd0, Kind: api.KindList, Width: 4, Sized: true, Items: true},
		{Code: 0xd1, Kind: api.KindMap, Width: 4, Sized: true, Items: true},
		{Code: 0xe0, Kind: api.KindArray, Width: 1, Sized: true, Items: true},
		{Code: 0xf0, Kind: api.KindArray, Width: 4, Sized: true, Items: true},
	}
}

// Of returns the constructor with this code, or false if there is none.
func Of(code int) (api.Ctor, bool) {
	t := table()
	at, is := slices.BinarySearchFunc(t[:], code, compare)
	if !is {
		return api.Ctor{}, false
	}
	return t[at], true
}

func compare(c api.Ctor, code int) int {
	return cmp.Compare(c.Code, code)
}

// Codes returns the codes of a kind, that with the fewest bytes first.
func Codes(kind int) []int {
	var codes []int
	for _, c := range table() {
		if c.Kind == kind {
			codes = append(codes, c.Code)
		}
	}
	return codes
}

// widest returns the constructor of a kind with the most bytes, which has room for all values of the kind.
func widest(kind int) api.Ctor {
	var last api.Ctor
	for _, c := range table() {
		if c.Kind == kind {
			last = c
		}
	}
	return last
}
