package amqprim_test

import (
	"math/big"
	"math/rand"
	"reflect"
	"strings"
	"testing"

	"polyglot/amqprim"
	"polyglot/api"
)

// meantGet is the chapter's Get, read a second time.
func meantGet(code int, s string) (v api.Value, size int, e api.Errno) {
	c, is := meantCtors[code]
	if !is || c.Items {
		return v, 0, api.ErrKind
	}
	if len(s) < c.Width {
		return v, 0, api.ErrShort
	}
	data := s[:c.Width]
	size = c.Width
	if c.Sized {
		bytes := new(big.Int).SetBytes([]byte(data))
		if bytes.Cmp(big.NewInt(int64(len(s)-c.Width))) > 0 {
			return v, 0, api.ErrShort
		}
		size += int(bytes.Int64())
		data = s[c.Width:size]
	}
	v = api.Value{Kind: c.Kind}
	switch {
	case c.Sized || c.Width == 16:
		v.Text = data
	case code == 0x41:
		v.N = 1
	default:
		v.N = meantBits(nameOf(c.Kind), data)
	}
	if e := meantRead(nameOf(c.Kind), v); e != api.OK {
		return api.Value{}, 0, e
	}
	return v, size, api.OK
}

// meantBits returns the 64 bits of the number that bytes stand for in a kind.
func meantBits(name, data string) uint64 {
	n := new(big.Int).SetBytes([]byte(data))
	if _, is := signed[name]; is && data[0] >= 0x80 {
		n.Sub(n, new(big.Int).Lsh(big.NewInt(1), uint(8*len(data))))
		return uint64(n.Int64())
	}
	return n.Uint64()
}

// meantRead returns what is wrong with a value that was read.
func meantRead(name string, v api.Value) api.Errno {
	switch {
	case name == "bool" && v.N > 1:
		return api.ErrBad
	case name == "char" && (v.N > 0x10ffff || v.N >= 0xd800 && v.N <= 0xdfff):
		return api.ErrBad
	case len(v.Text) > mostText:
		return api.ErrLong
	case !meantText(name, v.Text):
		return api.ErrText
	}
	return api.OK
}

// got fails unless Get returns this for a string.
func got(t *testing.T, code int, s string, v api.Value, size int, e api.Errno) {
	t.Helper()
	gotV, gotSize, gotE := amqprim.Get(code, s)
	if !reflect.DeepEqual(gotV, v) || gotSize != size || gotE != e {
		t.Errorf("Get(%#x, %.40x (%d)): %d %#x %.40q (%d) of %d, %d; not %d %#x %.40q (%d) of %d, %d",
			code, s, len(s), gotV.Kind, gotV.N, gotV.Text, len(gotV.Text), gotSize, gotE, v.Kind, v.N, v.Text, len(v.Text), size, e)
	}
}

// get fails unless Get returns what is meant, which is then valid, fits, and is put as it was.
func get(t *testing.T, code int, s string) {
	t.Helper()
	v, size, e := meantGet(code, s)
	got(t, code, s, v, size, e)
	if e != api.OK {
		return
	}
	if again, e := amqprim.Put(code, v); again != s[:size] || e != api.OK || !amqprim.Fits(code, v) || amqprim.Check(v) != api.OK {
		t.Errorf("Put(%#x, %d %#x %.40q): %.40x %d; not %.40x", code, v.Kind, v.N, v.Text, again, e, s[:size])
	}
}

// starts are bytes that data may begin with, with each edge of the numbers of all widths.
func starts() []string {
	l := []string{"", strings.Repeat("\x00", 20), strings.Repeat("\xff", 20), strings.Repeat("\x80", 20), "\x7f" + strings.Repeat("\xff", 19), "\x80" + strings.Repeat("\x00", 19)}
	for _, digits := range []string{
		"01", "02", "7f", "80", "ff", "0001", "7fff", "8000", "ffff", "00000001", "7fffffff", "80000000", "ffffffff", "0000000000000001",
		"0000d7ff", "0000d800", "0000dbff", "0000dc00", "0000dfff", "0000e000", "0010ffff", "00110000", "0100d800", "01000041", "80000041", "7fc00000", "7ff8000000000000",
		"0000000161", "00000002c3a4", "00000002c3", "00000001ff", "0000000100", "00000003610062", "00000003eda080", "000000", "00000000", "0161", "01ff", "0100", "02c3a4", "02c300", "03eda080", "0561", "ff61", "80000000616263",
	} {
		l = append(l, unhex(digits))
	}
	return l
}

// P16.3: every code, with bytes at all edges, cut anywhere and followed by others.
func TestGet(t *testing.T) {
	for _, code := range codes() {
		for _, start := range starts() {
			for cut := range len(start) + 1 {
				get(t, code, start[:cut])
			}
			get(t, code, start+"z")
			get(t, code, start+strings.Repeat("\x00", 300))
			get(t, code, start+strings.Repeat("z\xff", 150))
		}
	}
}

// P16.3: every byte, and every two bytes, as data and as the size of what follows.
func TestGetBytes(t *testing.T) {
	tail := strings.Repeat("z", 255)
	for _, code := range []int{0x50, 0x51, 0x52, 0x53, 0x54, 0x55, 0x56, 0xa0, 0xa1, 0xa3} {
		for first := range 256 {
			get(t, code, string([]byte{byte(first)}))
			get(t, code, string([]byte{byte(first)})+tail)
			get(t, code, string([]byte{byte(first)})+tail[1:])
		}
	}
	for _, code := range []int{0x60, 0x61} {
		for n := range 1 << 16 {
			get(t, code, string([]byte{byte(n >> 8), byte(n)}))
		}
	}
}

// P16.3: what each constructor of a scalar needs; a byte less is ErrShort.
func TestGetShort(t *testing.T) {
	for code, bytes := range map[int]int{
		0x50: 1, 0x51: 1, 0x52: 1, 0x53: 1, 0x54: 1, 0x55: 1, 0x56: 1, 0x60: 2, 0x61: 2, 0x70: 4, 0x71: 4, 0x72: 4, 0x73: 4, 0x74: 4,
		0x80: 8, 0x81: 8, 0x82: 8, 0x83: 8, 0x84: 8, 0x94: 16, 0x98: 16, 0xa0: 1, 0xa1: 1, 0xa3: 1, 0xb0: 4, 0xb1: 4, 0xb3: 4,
	} {
		for cut := range bytes {
			got(t, code, strings.Repeat("\x00", cut), api.Value{}, 0, api.ErrShort)
		}
		if v, size, e := amqprim.Get(code, strings.Repeat("\x00", bytes)); e != api.OK || size != bytes || v.Kind == 0 {
			t.Errorf("Get(%#x, %d zeros): %v %d %d", code, bytes, v, size, e)
		}
	}
}

// P16.3: by hand, what is malformed.
func TestGetWrong(t *testing.T) {
	for _, c := range []struct {
		code int
		s    string
		want api.Errno
	}{
		{0x00, "", api.ErrKind},
		{0x00, "\x40\x40", api.ErrKind},
		{0x45, "", api.ErrKind},
		{0xc0, "\x01\x00", api.ErrKind},
		{0xd1, "", api.ErrKind},
		{0xe0, "\x02\x00\x40", api.ErrKind},
		{0x99, "abc", api.ErrKind},
		{-1, "", api.ErrKind},
		{0x100 + 0x40, "", api.ErrKind},
		{0x56, "", api.ErrShort},
		{0x56, "\x02", api.ErrBad},
		{0x56, "\xff\x00", api.ErrBad},
		{0x73, "\x00\x00\xd8", api.ErrShort},
		{0x73, "\x00\x00\xd8\x00", api.ErrBad},
		{0x73, "\x00\x00\xdf\xff", api.ErrBad},
		{0x73, "\x00\x11\x00\x00", api.ErrBad},
		{0x73, "\x80\x00\x00\x41", api.ErrBad},
		{0xa1, "\x02a", api.ErrShort},
		{0xa1, "\x02\xff", api.ErrShort},
		{0xa1, "\x01\xff", api.ErrText},
		{0xb1, "\x00\x00\x00\x02\xc3\xc3", api.ErrText},
		{0xb1, "\xff\xff\xff\xffabc", api.ErrShort},
		{0xb0, "\x80\x00\x00\x00abc", api.ErrShort},
		{0xa3, "\x01\x80", api.ErrText},
		{0xb3, "\x00\x00\x00\x02a\xff", api.ErrText},
	} {
		got(t, c.code, c.s, api.Value{}, 0, c.want)
	}
}

// P16.3: texts with the most bytes, and with more: bytes that are missing are told first, a text that is not valid last.
func TestGetLong(t *testing.T) {
	for _, code := range []int{0xb0, 0xb1, 0xb3} {
		for _, letter := range []string{"z", "\x00", "\xff"} {
			most := strings.Repeat(letter, mostText)
			get(t, code, "\x00\x10\x00\x00"+most)
			get(t, code, "\x00\x10\x00\x00"+most+letter)
			got(t, code, "\x00\x10\x00\x00"+most[1:], api.Value{}, 0, api.ErrShort)
			got(t, code, "\x00\x10\x00\x01"+most, api.Value{}, 0, api.ErrShort)
			got(t, code, "\x00\x10\x00\x01"+most+letter, api.Value{}, 0, api.ErrLong)
			got(t, code, "\x00\x10\x00\x01"+most+letter+"z", api.Value{}, 0, api.ErrLong)
		}
	}
	v, size, e := amqprim.Get(0xb1, "\x00\x10\x00\x00"+strings.Repeat("z", mostText))
	if len(v.Text) != mostText || size != mostText+4 || e != api.OK {
		t.Errorf("%d %d %d", len(v.Text), size, e)
	}
}

// P16.3 and P16.4: random bytes with all constructors.
func TestGetRandom(t *testing.T) {
	r := rand.New(rand.NewSource(163))
	var scalars []int
	for kind := range lastScalar + 1 {
		scalars = append(scalars, amqprim.Codes(kind)...)
	}
	for range 100_000 {
		s := make([]byte, r.Intn(20))
		for i := range s {
			s[i] = byte(r.Intn(256) >> r.Intn(9))
		}
		get(t, scalars[r.Intn(len(scalars))], string(s))
	}
}

// P16.4: a series of values, put one after the other, is returned in order.
func TestSeries(t *testing.T) {
	type item struct {
		code int
		v    api.Value
	}
	var items []item
	var all strings.Builder
	for _, v := range samples() {
		for _, code := range amqprim.Codes(v.Kind) {
			if s, e := amqprim.Put(code, v); e == api.OK {
				items = append(items, item{code, v})
				all.WriteString(s)
			}
		}
	}
	s := all.String()
	for _, i := range items {
		v, size, e := amqprim.Get(i.code, s)
		if !reflect.DeepEqual(v, i.v) || e != api.OK {
			t.Fatalf("Get(%#x): %d %#x %.40q, %d; not %d %#x %.40q", i.code, v.Kind, v.N, v.Text, e, i.v.Kind, i.v.N, i.v.Text)
		}
		s = s[size:]
	}
	if s != "" {
		t.Errorf("%d bytes left", len(s))
	}
}
