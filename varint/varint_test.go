package varint_test

import (
	"math"
	"slices"
	"testing"

	"polyglot/api"
	"polyglot/varint"
)

// known are numbers with their bytes, as they are published for MQTT, and some between them.
var known = []struct {
	n int
	s string
}{
	{0, "\x00"},
	{1, "\x01"},
	{64, "\x40"},
	{127, "\x7f"},
	{128, "\x80\x01"},
	{129, "\x81\x01"},
	{256, "\x80\x02"},
	{321, "\xc1\x02"},
	{16383, "\xff\x7f"},
	{16384, "\x80\x80\x01"},
	{2097151, "\xff\xff\x7f"},
	{2097152, "\x80\x80\x80\x01"},
	{123456789, "\x95\x9a\xef\x3a"},
	{api.MostVar, "\xff\xff\xff\x7f"},
}

var beyond = []int{-1, -127, -128, math.MinInt32, math.MinInt, api.MostVar + 1, math.MaxInt32, math.MaxInt}

// numbers are those around each power of two, and some over the whole range.
func numbers() []int {
	var all []int
	for n := range 600 {
		all = append(all, n)
	}
	for bit := 9; bit <= 28; bit++ {
		for n := 1<<bit - 300; n <= min(1<<bit+300, api.MostVar); n++ {
			all = append(all, n)
		}
	}
	for n := 600; n <= api.MostVar; n += 104729 {
		all = append(all, n)
	}
	return all
}

// inputs are all strings of up to five of the bytes that lie at the edges.
func inputs() []string {
	all := []string{""}
	for from, size := 0, 0; size < 5; size++ {
		to := len(all)
		for _, s := range all[from:to] {
			for _, b := range []byte{0x00, 0x01, 0x7f, 0x80, 0x81, 0xff} {
				all = append(all, s+string([]byte{b}))
			}
		}
		from = to
	}
	return all
}

type answer struct {
	n, size int
	e       api.Errno
}

// meant is what Read is to return, reckoned from the words of the document.
func meant(s string) answer {
	ends := slices.IndexFunc([]byte(s), func(b byte) bool { return b < 0x80 })
	if ends < 0 && len(s) < 4 {
		return answer{e: api.ErrShort}
	}
	if ends < 0 || ends > 3 || ends > 0 && s[ends] == 0 {
		return answer{e: api.ErrBad}
	}
	n, weight := 0, 1
	for _, b := range []byte(s[:ends+1]) {
		n += int(b%128) * weight
		weight *= 128
	}
	return answer{n: n, size: ends + 1}
}

func read(s string) answer {
	n, size, e := varint.Read(s)
	return answer{n, size, e}
}

// P2.1

func TestSize(t *testing.T) {
	for n, want := range map[int]int{0: 1, 1: 1, 127: 1, 128: 2, 16383: 2, 16384: 3, 2097151: 3, 2097152: 4, api.MostVar: 4} {
		if got := varint.Size(n); got != want {
			t.Errorf("Size(%d): %d, want %d", n, got, want)
		}
	}
	for _, n := range beyond {
		if got := varint.Size(n); got != 0 {
			t.Errorf("Size(%d): %d", n, got)
		}
	}
}

func TestBytes(t *testing.T) {
	for _, c := range known {
		if got, e := varint.Bytes(c.n); got != c.s || e != api.OK {
			t.Errorf("Bytes(%d): %x and error %d, want %x", c.n, got, e, c.s)
		}
	}
	for _, n := range beyond {
		if got, e := varint.Bytes(n); got != "" || e != api.ErrArg {
			t.Errorf("Bytes(%d): %x and error %d", n, got, e)
		}
	}
}

func TestSizeOfBytes(t *testing.T) {
	for _, n := range numbers() {
		s, e := varint.Bytes(n)
		if e != api.OK || len(s) != varint.Size(n) {
			t.Fatalf("Bytes(%d): %x and error %d, but Size %d", n, s, e, varint.Size(n))
		}
	}
}

func TestRead(t *testing.T) {
	for _, c := range known {
		for _, more := range []string{"", "\x00", "\x80", "\xff\xff\xff\xff\xff", "text"} {
			if got := read(c.s + more); got != (answer{c.n, len(c.s), api.OK}) {
				t.Errorf("Read(%x): %+v, want %d", c.s+more, got, c.n)
			}
		}
	}
}

func TestReadWhatEndsEarly(t *testing.T) {
	for _, s := range []string{"", "\x80", "\xff", "\x80\x80", "\xff\xff", "\x80\x80\x80", "\xff\xff\xff"} {
		if got := read(s); got != (answer{e: api.ErrShort}) {
			t.Errorf("Read(%x): %+v", s, got)
		}
	}
}

func TestReadWhatIsMalformed(t *testing.T) {
	for _, s := range []string{
		"\x80\x00", "\xff\x00", "\x80\x80\x00", "\xff\xff\x00", "\x80\x80\x80\x00", "\xff\xff\xff\x00", // fewer bytes would suffice
		"\x80\x80\x80\x80", "\xff\xff\xff\xff", "\x80\x80\x80\x80\x00", "\x80\x80\x80\x80\x01", "\xff\xff\xff\xff\x7f", // too many
		"\x80\x00\x01", "\x80\x80\x80\x00\x01",
	} {
		if got := read(s); got != (answer{e: api.ErrBad}) {
			t.Errorf("Read(%x): %+v", s, got)
		}
	}
}

func TestReadAnything(t *testing.T) {
	for _, s := range inputs() {
		if got, want := read(s), meant(s); got != want {
			t.Errorf("Read(%x): %+v, want %+v", s, got, want)
		}
	}
}

// P2.2

type view struct {
	n    int
	is   bool
	size int
}

func expect(t *testing.T, r *varint.Reader, want view) {
	t.Helper()
	n, is := r.Value()
	if got := (view{n, is, r.Size()}); got != want {
		t.Errorf("reader %+v, want %+v", got, want)
	}
}

func push(t *testing.T, r *varint.Reader, b byte, done bool, e api.Errno) {
	t.Helper()
	if gotDone, gotE := r.Push(b); gotDone != done || gotE != e {
		t.Errorf("Push(%x): %t and error %d, want %t and %d", b, gotDone, gotE, done, e)
	}
}

func TestNewHasNoBytes(t *testing.T) {
	expect(t, varint.New(), view{})
}

func TestPushOfKnownNumbers(t *testing.T) {
	for _, c := range known {
		r := varint.New()
		last := len(c.s) - 1
		for i := range last {
			push(t, r, c.s[i], false, api.OK)
			expect(t, r, view{size: i + 1})
		}
		push(t, r, c.s[last], true, api.OK)
		expect(t, r, view{c.n, true, len(c.s)})
	}
}

func TestPushAfterTheLastByte(t *testing.T) {
	r := varint.New()
	push(t, r, 0x80, false, api.OK)
	push(t, r, 0x01, true, api.OK)
	for _, b := range []byte{0x00, 0x01, 0x80, 0xff} {
		push(t, r, b, false, api.ErrState)
		expect(t, r, view{128, true, 2})
	}
}

func TestPushAfterAnError(t *testing.T) {
	for _, s := range []string{"\x80\x00", "\xff\xff\x00", "\x81\x80\x80\x00", "\x80\x80\x80\x80", "\xff\xff\xff\xff"} {
		r := varint.New()
		last := len(s) - 1
		for i := range last {
			push(t, r, s[i], false, api.OK)
		}
		push(t, r, s[last], false, api.ErrBad)
		expect(t, r, view{size: len(s)})
		for _, b := range []byte{0x00, 0x01, 0x80, 0xff} {
			push(t, r, b, false, api.ErrState)
			expect(t, r, view{size: len(s)})
		}
	}
}

func TestPushAgreesWithRead(t *testing.T) {
	r := varint.New()
	for _, s := range inputs() {
		r.Reset()
		got := answer{e: api.ErrShort}
		for i := range len(s) {
			done, e := r.Push(s[i])
			if e != api.OK {
				got = answer{e: e}
				break
			}
			if done {
				n, _ := r.Value()
				got = answer{n, r.Size(), api.OK}
				break
			}
		}
		if want := meant(s); got != want {
			t.Errorf("pushed %x: %+v, want %+v", s, got, want)
		}
	}
}

func TestReset(t *testing.T) {
	for _, before := range []string{"", "\x05", "\x80", "\xff\xff\xff", "\xff\xff\xff\x7f", "\x80\x00", "\xff\xff\xff\xff", "\x05\x05"} {
		r := varint.New()
		for _, b := range []byte(before) {
			r.Push(b)
		}
		r.Reset()
		expect(t, r, view{})
		push(t, r, 0x80, false, api.OK)
		expect(t, r, view{size: 1})
		push(t, r, 0x01, true, api.OK)
		expect(t, r, view{128, true, 2})
	}
}

func TestInvalidReader(t *testing.T) {
	made := varint.New()
	push(t, made, 0x05, true, api.OK)
	copied := *made
	for name, r := range map[string]*varint.Reader{"nil": nil, "zero": {}, "copy": &copied} {
		t.Run(name, func(t *testing.T) {
			expect(t, r, view{})
			push(t, r, 0x05, false, api.ErrNil)
			r.Reset()
			push(t, r, 0x80, false, api.ErrNil)
			expect(t, r, view{})
		})
	}
	expect(t, made, view{5, true, 1})
}

func TestReadersAreApart(t *testing.T) {
	a, b := varint.New(), varint.New()
	push(t, a, 0x80, false, api.OK)
	push(t, b, 0x07, true, api.OK)
	expect(t, a, view{size: 1})
	a.Reset()
	expect(t, b, view{7, true, 1})
}

// P2.3

func TestReadOfBytes(t *testing.T) {
	for _, n := range numbers() {
		s, _ := varint.Bytes(n)
		if got := read(s); got != (answer{n, len(s), api.OK}) {
			t.Fatalf("Read of Bytes(%d): %+v", n, got)
		}
	}
}

// What begins the bytes of a number must end too early: if it was another number, Read would find that one.
func TestNoNumberIsAPrefix(t *testing.T) {
	for _, n := range numbers() {
		s, _ := varint.Bytes(n)
		for i := range len(s) {
			if got := read(s[:i]); got != (answer{e: api.ErrShort}) {
				t.Fatalf("Read of the first %d bytes of %d: %+v", i, n, got)
			}
		}
	}
}

// The same of Bytes alone, so that a fault that Read shares is found.
func TestNoBytesArePrefixes(t *testing.T) {
	seen := map[string]int{}
	for _, n := range numbers() {
		s, _ := varint.Bytes(n)
		seen[s] = n
	}
	for s, n := range seen {
		for i := range len(s) {
			if other, is := seen[s[:i]]; is {
				t.Errorf("the bytes of %d begin those of %d", other, n)
			}
		}
	}
}
