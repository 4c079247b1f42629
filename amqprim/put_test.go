package amqprim_test

import (
	"encoding/binary"
	"encoding/hex"
	"math/rand"
	"strings"
	"testing"

	"polyglot/amqprim"
	"polyglot/api"
)

// least1 and most1 are what one byte can say in the kinds with signs.
const (
	least1 = -128
	most1  = 127
)

// meantFits is the chapter's Fits, read a second time.
func meantFits(code int, v api.Value) bool {
	c, is := meantCtors[code]
	if !is || c.Kind != v.Kind || meantCheck(v) != api.OK {
		return false
	}
	_, hasSign := signed[nameOf(v.Kind)]
	switch {
	case c.Sized && c.Width == 1:
		return len(v.Text) <= 255
	case code == 0x41:
		return v.N == 1
	case c.Width == 0:
		return v.N == 0
	case !c.Sized && c.Width == 1 && hasSign:
		return int64(v.N) >= least1 && int64(v.N) <= most1
	case !c.Sized && c.Width == 1:
		return v.N <= 255
	}
	return true
}

// meantPut is the data of a value that fits, by the chapter's terms.
func meantPut(code int, v api.Value) string {
	c := meantCtors[code]
	switch {
	case c.Sized && c.Width == 1:
		return string([]byte{byte(len(v.Text))}) + v.Text
	case c.Sized:
		return string(binary.BigEndian.AppendUint32(nil, uint32(len(v.Text)))) + v.Text
	case c.Width == 16:
		return v.Text
	}
	eight := binary.BigEndian.AppendUint64(nil, v.N)
	return string(eight[8-c.Width:])
}

// put fails unless Fits, Put and Get do with a constructor and a value what is meant.
func put(t *testing.T, code int, v api.Value) {
	t.Helper()
	fits := meantFits(code, v)
	if got := amqprim.Fits(code, v); got != fits {
		t.Errorf("Fits(%#x, %d %#x %.40q (%d)): %v", code, v.Kind, v.N, v.Text, len(v.Text), got)
	}
	want, wrong := "", meantCheck(v)
	if fits {
		want = meantPut(code, v)
	} else if wrong == api.OK {
		wrong = api.ErrArg
	}
	s, e := amqprim.Put(code, v)
	if s != want || e != wrong {
		t.Errorf("Put(%#x, %d %#x %.40q (%d)): %.40x (%d) %d; not %.40x (%d) %d", code, v.Kind, v.N, v.Text, len(v.Text), s, len(s), e, want, len(want), wrong)
	}
	if fits {
		got(t, code, s, v, len(s), api.OK)
		got(t, code, s+"\x00rest", v, len(s), api.OK)
	}
}

// least fails unless Least says of a value what is meant.
func least(t *testing.T, v api.Value) {
	t.Helper()
	want, wrong := 0, meantCheck(v)
	if wrong == api.OK {
		for _, code := range amqprim.Codes(v.Kind) {
			if meantFits(code, v) {
				want = code
				break
			}
		}
	}
	if code, e := amqprim.Least(v); code != want || e != wrong {
		t.Errorf("Least(%d %#x %.40q (%d)): %#x %d; not %#x %d", v.Kind, v.N, v.Text, len(v.Text), code, e, want, wrong)
	}
}

// samples are values of all kinds, many of them valid: numbers at all edges, and texts.
func samples() []api.Value {
	var all []api.Value
	for kind := range 28 {
		for _, n := range numbers() {
			all = append(all, api.Value{Kind: kind, N: n})
		}
		for _, text := range texts() {
			all = append(all, api.Value{Kind: kind, Text: text})
		}
		all = append(all, api.Value{Kind: kind, Items: []api.Value{{Kind: api.KindNull}}}, api.Value{Kind: kind, N: 1, Text: "a"})
	}
	return all
}

// P16.2 and P16.4: values of all kinds with the constructors of their kind, and some others.
func TestPut(t *testing.T) {
	for _, v := range samples() {
		least(t, v)
		for _, code := range append(amqprim.Codes(v.Kind), 0x00, 0x40, 0x41, 0x43, 0x45, 0x52, 0x55, 0x70, 0x99, 0xa0, 0xb1, 0xc0, 0xff) {
			put(t, code, v)
		}
	}
}

// P16.2: a value of each kind with every code; only those of its kind fit.
func TestPutCodes(t *testing.T) {
	sixteen := strings.Repeat("u", 16)
	for _, v := range []api.Value{
		{Kind: 1}, {Kind: 2}, {Kind: 2, N: 1}, {Kind: 3}, {Kind: 4, N: 1}, {Kind: 5}, {Kind: 5, N: 1}, {Kind: 6}, {Kind: 6, N: 256}, {Kind: 7},
		{Kind: 8}, {Kind: 9}, {Kind: 10}, {Kind: 11}, {Kind: 12}, {Kind: 13}, {Kind: 14}, {Kind: 15, Text: sixteen}, {Kind: 16, N: 65}, {Kind: 17},
		{Kind: 18, Text: sixteen}, {Kind: 19}, {Kind: 20, Text: "a"}, {Kind: 21, Text: sixteen}, {Kind: 22}, {Kind: 23}, {Kind: 24, N: 1}, {Kind: 25}, {}, {Kind: -1},
	} {
		for _, code := range codes() {
			put(t, code, v)
		}
	}
}

// P16.2 and P16.4: each kind and each constructor of a scalar, by hand.
func TestPutByHand(t *testing.T) {
	minus := func(n uint64) uint64 { return -n }
	sixteen := "00112233445566778899aabbccddeeff"
	for _, c := range []struct {
		code int
		v    api.Value
		want string
	}{
		{0x40, api.Value{Kind: api.KindNull}, ""},
		{0x41, api.Value{Kind: api.KindBool, N: 1}, ""},
		{0x42, api.Value{Kind: api.KindBool}, ""},
		{0x56, api.Value{Kind: api.KindBool}, "00"},
		{0x56, api.Value{Kind: api.KindBool, N: 1}, "01"},
		{0x50, api.Value{Kind: api.KindUbyte, N: 200}, "c8"},
		{0x60, api.Value{Kind: api.KindUshort, N: 258}, "0102"},
		{0x43, api.Value{Kind: api.KindUint}, ""},
		{0x52, api.Value{Kind: api.KindUint, N: 255}, "ff"},
		{0x70, api.Value{Kind: api.KindUint, N: 0xfffefdfc}, "fffefdfc"},
		{0x70, api.Value{Kind: api.KindUint}, "00000000"},
		{0x44, api.Value{Kind: api.KindUlong}, ""},
		{0x53, api.Value{Kind: api.KindUlong, N: 16}, "10"},
		{0x80, api.Value{Kind: api.KindUlong, N: 0x0102030405060708}, "0102030405060708"},
		{0x51, api.Value{Kind: api.KindByte, N: minus(2)}, "fe"},
		{0x61, api.Value{Kind: api.KindShort, N: minus(2)}, "fffe"},
		{0x61, api.Value{Kind: api.KindShort, N: 2}, "0002"},
		{0x54, api.Value{Kind: api.KindInt, N: minus(128)}, "80"},
		{0x71, api.Value{Kind: api.KindInt, N: minus(129)}, "ffffff7f"},
		{0x71, api.Value{Kind: api.KindInt, N: 128}, "00000080"},
		{0x55, api.Value{Kind: api.KindLong, N: 127}, "7f"},
		{0x55, api.Value{Kind: api.KindLong, N: minus(1)}, "ff"},
		{0x81, api.Value{Kind: api.KindLong, N: minus(1)}, "ffffffffffffffff"},
		{0x72, api.Value{Kind: api.KindFloat, N: 0x3f800000}, "3f800000"},
		{0x82, api.Value{Kind: api.KindDouble, N: 0x3ff0000000000000}, "3ff0000000000000"},
		{0x74, api.Value{Kind: api.KindDec32, N: 0x22500001}, "22500001"},
		{0x84, api.Value{Kind: api.KindDec64, N: 0x2238000000000001}, "2238000000000001"},
		{0x94, api.Value{Kind: api.KindDec128, Text: unhex(sixteen)}, sixteen},
		{0x73, api.Value{Kind: api.KindChar, N: 0x1f600}, "0001f600"},
		{0x83, api.Value{Kind: api.KindTime, N: minus(1000)}, "fffffffffffffc18"},
		{0x98, api.Value{Kind: api.KindUuid, Text: unhex(sixteen)}, sixteen},
		{0xa0, api.Value{Kind: api.KindBinary, Text: "\xff\x00"}, "02ff00"},
		{0xb0, api.Value{Kind: api.KindBinary, Text: "\xff\x00"}, "00000002ff00"},
		{0xa1, api.Value{Kind: api.KindString, Text: "\xc3\xa4\x00"}, "03c3a400"},
		{0xb1, api.Value{Kind: api.KindString}, "00000000"},
		{0xa3, api.Value{Kind: api.KindSymbol, Text: "\x00\x7f"}, "02007f"},
		{0xa3, api.Value{Kind: api.KindSymbol}, "00"},
		{0xb3, api.Value{Kind: api.KindSymbol, Text: "ab"}, "000000026162"},
	} {
		if s, e := amqprim.Put(c.code, c.v); hex.EncodeToString([]byte(s)) != c.want || e != api.OK {
			t.Errorf("Put(%#x, %v): %x %d; not %s", c.code, c.v, s, e, c.want)
		}
		if !amqprim.Fits(c.code, c.v) {
			t.Errorf("Fits(%#x, %v)", c.code, c.v)
		}
		got(t, c.code, unhex(c.want), c.v, len(c.want)/2, api.OK)
	}
}

// unhex returns the bytes of hexadecimal digits.
func unhex(digits string) string {
	s, err := hex.DecodeString(digits)
	if err != nil {
		panic(err)
	}
	return string(s)
}

// P16.2: the chapter's examples, and others by hand where one constructor ends and the next begins.
func TestLeast(t *testing.T) {
	minus := func(n uint64) uint64 { return -n }
	for _, c := range []struct {
		v    api.Value
		want int
		e    api.Errno
	}{
		{api.Value{Kind: api.KindUint}, 0x43, api.OK},
		{api.Value{Kind: api.KindUint, N: 1}, 0x52, api.OK},
		{api.Value{Kind: api.KindUint, N: 200}, 0x52, api.OK},
		{api.Value{Kind: api.KindUint, N: 255}, 0x52, api.OK},
		{api.Value{Kind: api.KindUint, N: 256}, 0x70, api.OK},
		{api.Value{Kind: api.KindUint, N: 300}, 0x70, api.OK},
		{api.Value{Kind: api.KindUlong}, 0x44, api.OK},
		{api.Value{Kind: api.KindUlong, N: 255}, 0x53, api.OK},
		{api.Value{Kind: api.KindUlong, N: 256}, 0x80, api.OK},
		{api.Value{Kind: api.KindInt}, 0x54, api.OK},
		{api.Value{Kind: api.KindInt, N: 127}, 0x54, api.OK},
		{api.Value{Kind: api.KindInt, N: 128}, 0x71, api.OK},
		{api.Value{Kind: api.KindInt, N: minus(128)}, 0x54, api.OK},
		{api.Value{Kind: api.KindInt, N: minus(129)}, 0x71, api.OK},
		{api.Value{Kind: api.KindLong, N: minus(1)}, 0x55, api.OK},
		{api.Value{Kind: api.KindLong, N: 255}, 0x81, api.OK},
		{api.Value{Kind: api.KindLong, N: 1 << 63}, 0x81, api.OK},
		{api.Value{Kind: api.KindNull}, 0x40, api.OK},
		{api.Value{Kind: api.KindBool}, 0x42, api.OK},
		{api.Value{Kind: api.KindBool, N: 1}, 0x41, api.OK},
		{api.Value{Kind: api.KindUbyte}, 0x50, api.OK},
		{api.Value{Kind: api.KindTime}, 0x83, api.OK},
		{api.Value{Kind: api.KindString}, 0xa1, api.OK},
		{api.Value{Kind: api.KindString, Text: strings.Repeat("z", 255)}, 0xa1, api.OK},
		{api.Value{Kind: api.KindString, Text: strings.Repeat("z", 256)}, 0xb1, api.OK},
		{api.Value{Kind: api.KindBinary, Text: strings.Repeat("z", 256)}, 0xb0, api.OK},
		{api.Value{Kind: api.KindSymbol, Text: strings.Repeat("z", 256)}, 0xb3, api.OK},
		{api.Value{Kind: api.KindList}, 0, api.ErrKind},
		{api.Value{Kind: api.KindUint, N: 1 << 32}, 0, api.ErrArg},
		{api.Value{Kind: api.KindUuid}, 0, api.ErrArg},
		{api.Value{Kind: api.KindBinary, Text: strings.Repeat("z", mostText+1)}, 0, api.ErrLong},
		{api.Value{Kind: api.KindString, Text: "\xff"}, 0, api.ErrText},
	} {
		if code, e := amqprim.Least(c.v); code != c.want || e != c.e {
			t.Errorf("Least(%d %#x %.9q): %#x %d; not %#x %d", c.v.Kind, c.v.N, c.v.Text, code, e, c.want, c.e)
		}
	}
}

// P16.2: the error of Check comes before that of a constructor that does not fit, or does not exist.
func TestPutOrder(t *testing.T) {
	for _, c := range []struct {
		v    api.Value
		want api.Errno
	}{
		{api.Value{Kind: api.KindMap}, api.ErrKind},
		{api.Value{Kind: api.KindUbyte, N: 256}, api.ErrArg},
		{api.Value{Kind: api.KindSymbol, Text: strings.Repeat("\xff", mostText+1)}, api.ErrLong},
		{api.Value{Kind: api.KindSymbol, Text: "\xff"}, api.ErrText},
		{api.Value{Kind: api.KindSymbol, Text: "a"}, api.ErrArg},
	} {
		for _, code := range []int{0x99, 0xc1, 0x52, -1} {
			if s, e := amqprim.Put(code, c.v); s != "" || e != c.want {
				t.Errorf("Put(%#x, %d %#x %.9q): %x %d; not %d", code, c.v.Kind, c.v.N, c.v.Text, s, e, c.want)
			}
		}
	}
}

// P16.2 and P16.4: texts of the greatest length.
func TestPutLong(t *testing.T) {
	for _, kind := range []int{api.KindBinary, api.KindString, api.KindSymbol} {
		for _, length := range []int{mostText - 1, mostText, mostText + 1} {
			v := api.Value{Kind: kind, Text: strings.Repeat("z", length)}
			least(t, v)
			for _, code := range amqprim.Codes(kind) {
				put(t, code, v)
			}
		}
	}
}

// P16.2 and P16.4: random values with all constructors of their kind.
func TestPutRandom(t *testing.T) {
	r := rand.New(rand.NewSource(162))
	valid := 0
	for range 50_000 {
		v := random(r)
		least(t, v)
		for _, code := range amqprim.Codes(v.Kind) {
			put(t, code, v)
		}
		if meantCheck(v) == api.OK {
			valid++
		}
	}
	if valid < 20_000 {
		t.Errorf("only %d valid values", valid)
	}
}
