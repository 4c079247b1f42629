package octet_test

import (
	"math"
	"strings"
	"testing"

	"polyglot/api"
	"polyglot/octet"
)

var numbers = []uint64{0, 1, 5, 127, 128, 255, 256, 258, 65535, 65536, 1<<24 - 1, 1 << 31, 1 << 32, 0x0102030405060708, 0xfedcba9876543210, 1 << 63, math.MaxUint64}

// P1.1

func TestPut(t *testing.T) {
	const n = 0x0102030405060708
	zeros := strings.Repeat("\x00", 8)
	for _, c := range []struct {
		n    uint64
		size int
		want string
	}{
		{258, 2, "\x01\x02"},
		{258, 1, "\x02"},
		{258, 3, "\x00\x01\x02"},
		{n, 0, ""},
		{n, -1, ""},
		{n, -8, ""},
		{n, math.MinInt, ""},
		{n, 7, "\x02\x03\x04\x05\x06\x07\x08"},
		{n, 8, "\x01\x02\x03\x04\x05\x06\x07\x08"},
		{n, 9, "\x00\x01\x02\x03\x04\x05\x06\x07\x08"},
		{n, 15, zeros[1:] + "\x01\x02\x03\x04\x05\x06\x07\x08"},
		{n, 16, zeros + "\x01\x02\x03\x04\x05\x06\x07\x08"},
		{n, 17, zeros + "\x01\x02\x03\x04\x05\x06\x07\x08"},
		{n, math.MaxInt, zeros + "\x01\x02\x03\x04\x05\x06\x07\x08"},
		{math.MaxUint64, 8, "\xff\xff\xff\xff\xff\xff\xff\xff"},
		{math.MaxUint64, 16, zeros + "\xff\xff\xff\xff\xff\xff\xff\xff"},
		{0, 4, "\x00\x00\x00\x00"},
	} {
		if got := octet.Put(c.n, c.size); got != c.want {
			t.Errorf("Put(%x, %d): %x, want %x", c.n, c.size, got, c.want)
		}
	}
}

func TestGet(t *testing.T) {
	for _, c := range []struct {
		s    string
		want uint64
	}{
		{"", 0},
		{"\x01\x02", 258},
		{"\xff", 255},
		{"\x00\x00\x05", 5},
		{"\x01\x02\x03\x04\x05\x06\x07", 0x01020304050607},
		{"\x01\x02\x03\x04\x05\x06\x07\x08", 0x0102030405060708},
		{"\x09\x01\x02\x03\x04\x05\x06\x07\x08", 0x0102030405060708},
		{strings.Repeat("\xee", 1000) + "\x00\x00\x00\x00\x00\x00\x00\x01", 1},
		{"\xff\xff\xff\xff\xff\xff\xff\xff", math.MaxUint64},
	} {
		if got := octet.Get(c.s); got != c.want {
			t.Errorf("Get(%x): %x, want %x", c.s, got, c.want)
		}
	}
}

// P1.2

type state struct {
	at, left int
	rest     string
	err      api.Errno
}

func expect(t *testing.T, c *octet.Cursor, want state) {
	t.Helper()
	if got := (state{c.At(), c.Left(), c.Rest(), c.Err()}); got != want {
		t.Errorf("cursor %+v, want %+v", got, want)
	}
}

func TestNewBegins(t *testing.T) {
	expect(t, octet.New("abc"), state{0, 3, "abc", api.OK})
	expect(t, octet.New(""), state{0, 0, "", api.OK})
}

func TestTake(t *testing.T) {
	c := octet.New("abcdef")
	for _, step := range []struct {
		n    int
		want string
		then state
	}{
		{2, "ab", state{2, 4, "cdef", api.OK}},
		{0, "", state{2, 4, "cdef", api.OK}},
		{1, "c", state{3, 3, "def", api.OK}},
		{3, "def", state{6, 0, "", api.OK}},
		{0, "", state{6, 0, "", api.OK}},
		{1, "", state{6, 0, "", api.ErrShort}},
		{0, "", state{6, 0, "", api.ErrShort}},
	} {
		if got := c.Take(step.n); got != step.want {
			t.Errorf("Take(%d): %q, want %q", step.n, got, step.want)
		}
		expect(t, c, step.then)
	}
}

func TestTakeWhatIsNotThere(t *testing.T) {
	for _, n := range []int{3, 4, math.MaxInt, -1, -2, math.MinInt} {
		c := octet.New("abc")
		c.Take(1)
		if got := c.Take(n); got != "" {
			t.Errorf("Take(%d): %q", n, got)
		}
		expect(t, c, state{1, 2, "bc", api.ErrShort})
	}
}

func TestNumber(t *testing.T) {
	c := octet.New("\x01\x02\x03\x09\x00\x00\x00\x00\x00\x00\x00\x04\xff")
	if got := c.Number(2); got != 258 {
		t.Error(got)
	}
	if got := c.Number(0); got != 0 || c.At() != 2 {
		t.Error(got, c.At())
	}
	if got := c.Number(1); got != 3 {
		t.Error(got)
	}
	if got := c.Number(9); got != 4 || c.At() != 12 {
		t.Error(got, c.At())
	}
	if got := c.Number(2); got != 0 {
		t.Error(got)
	}
	expect(t, c, state{12, 1, "\xff", api.ErrShort})
	if got := c.Number(1); got != 0 {
		t.Error(got)
	}
	d := octet.New("\xff")
	if got := d.Number(-1); got != 0 {
		t.Error(got)
	}
	expect(t, d, state{0, 1, "\xff", api.ErrShort})
}

func TestPeek(t *testing.T) {
	c := octet.New("abcd")
	c.Take(1)
	for n, want := range map[int]string{0: "", 1: "b", 2: "bc", 3: "bcd", 4: "", math.MaxInt: "", -1: "", math.MinInt: ""} {
		if got := c.Peek(n); got != want {
			t.Errorf("Peek(%d): %q, want %q", n, got, want)
		}
		expect(t, c, state{1, 3, "bcd", api.OK})
	}
	if got := c.Take(3); got != "bcd" {
		t.Error(got)
	}
}

func TestFail(t *testing.T) {
	c := octet.New("abc")
	c.Fail(api.OK)
	if got := c.Take(1); got != "a" {
		t.Errorf("after Fail(OK): %q", got)
	}
	c.Fail(api.ErrBad)
	want := state{1, 2, "bc", api.ErrBad}
	expect(t, c, want)
	c.Fail(api.OK)
	expect(t, c, want)
	c.Fail(api.ErrText)
	expect(t, c, want)
	for _, n := range []int{-1, 0, 1, 2, 3} {
		if c.Take(n) != "" || c.Peek(n) != "" || c.Number(n) != 0 {
			t.Errorf("something of size %d after an error", n)
		}
		expect(t, c, want)
	}
}

func TestFailWithAnyNumber(t *testing.T) {
	for _, e := range []api.Errno{api.ErrNil, api.ErrTwice, 1000, -1} {
		c := octet.New("abc")
		c.Fail(e)
		expect(t, c, state{0, 3, "abc", e})
	}
}

func TestShortIsFirst(t *testing.T) {
	c := octet.New("abc")
	c.Take(4)
	c.Fail(api.ErrBad)
	expect(t, c, state{0, 3, "abc", api.ErrShort})
}

func TestInvalidCursor(t *testing.T) {
	made := octet.New("abc")
	made.Take(1)
	copied := *made
	for name, c := range map[string]*octet.Cursor{"nil": nil, "zero": {}, "copy": &copied} {
		want := state{0, 0, "", api.ErrNil}
		expect(t, c, want)
		for _, n := range []int{-1, 0, 1, 2} {
			if c.Take(n) != "" || c.Peek(n) != "" || c.Number(n) != 0 {
				t.Errorf("%s: something of size %d", name, n)
			}
		}
		expect(t, c, want)
		c.Fail(api.ErrBad)
		expect(t, c, want)
	}
	expect(t, made, state{1, 2, "bc", api.OK})
}

func TestCursorsAreApart(t *testing.T) {
	a, b := octet.New("abc"), octet.New("abc")
	a.Take(2)
	a.Fail(api.ErrBad)
	expect(t, b, state{0, 3, "abc", api.OK})
}

// P1.3

func TestGetOfPut(t *testing.T) {
	for _, n := range numbers {
		for size := -2; size <= 20; size++ {
			want := n
			if size < 8 {
				want = n % (1 << (8 * max(size, 0)))
			}
			if got := octet.Get(octet.Put(n, size)); got != want {
				t.Errorf("Get of Put(%x, %d): %x, want %x", n, size, got, want)
			}
		}
	}
}

func TestTakenAndRestAreTheString(t *testing.T) {
	const s = "\x00\xffabc\xc3\x28 the rest"
	for first := -1; first <= len(s)+1; first++ {
		for second := -1; second <= len(s)+1; second++ {
			c := octet.New(s)
			got := c.Take(first)
			c.Peek(second)
			got += c.Take(second)
			got += c.Take(1)
			if got+c.Rest() != s {
				t.Errorf("Take(%d), Take(%d): %q and %q", first, second, got, c.Rest())
			}
			if c.At() != len(got) || c.Left() != len(s)-len(got) {
				t.Errorf("Take(%d), Take(%d): at %d, left %d", first, second, c.At(), c.Left())
			}
		}
	}
}
