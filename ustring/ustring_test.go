package ustring_test

import (
	"slices"
	"strings"
	"testing"
	"unicode/utf8"

	"polyglot/api"
	"polyglot/ustring"
)

// edges are the bytes at the edges of what each place of a code point may have.
const edges = "\x00\x01\x41\x7f\x80\x8f\x90\x9f\xa0\xbd\xbf\xc0\xc1\xc2\xdf\xe0\xe1\xec\xed\xee\xef\xf0\xf1\xf3\xf4\xf5\xf7\xf8\xff"

// head returns how many bytes a code point has that begins with b, and the bits of b that belong to it; 0 if none begins so.
func head(b byte) (size, bits int) {
	switch {
	case b < 0x80:
		return 1, int(b)
	case b&0xe0 == 0xc0:
		return 2, int(b & 0x1f)
	case b&0xf0 == 0xe0:
		return 3, int(b & 0x0f)
	case b&0xf8 == 0xf0:
		return 4, int(b & 0x07)
	}
	return 0, 0
}

// first returns the code point with which s begins, and its size, or 0 and 0: reckoned from the words of the document, without the library.
func first(s string) (point rune, size int) {
	size, n := head(s[0])
	if size == 0 || size > len(s) {
		return 0, 0
	}
	for _, b := range []byte(s[1:size]) {
		if b&0xc0 != 0x80 {
			return 0, 0
		}
		n = n<<6 | int(b&0x3f)
	}
	least := []int{0, 1, 0x80, 0x800, 0x10000}[size] // 1: U+0000 is not allowed
	if n < least || n >= 0xd800 && n <= 0xdfff || n > 0x10ffff {
		return 0, 0
	}
	return rune(n), size
}

// meant returns the indexes and the code points of s, and what Bad is to return.
func meant(s string) (at []int, points []rune, bad int) {
	for i := 0; i < len(s); {
		point, size := first(s[i:])
		if size == 0 {
			return at, points, i
		}
		at, points = append(at, i), append(points, point)
		i += size
	}
	return at, points, -1
}

func gathered(s string) (at []int, points []rune) {
	for i, point := range ustring.Runes(s) {
		at, points = append(at, i), append(points, point)
	}
	return at, points
}

// check holds everything that is said of the bytes s against what the document means.
func check(t *testing.T, s string) {
	t.Helper()
	at, points, bad := meant(s)
	valid := bad < 0 && len(s) <= 65535
	if got := ustring.Valid(s); got != valid {
		t.Errorf("Valid(%q) = %v", s, got)
	}
	if got := ustring.Bad(s); got != bad {
		t.Errorf("Bad(%q) = %d, not %d", s, got, bad)
	}
	count := 0
	if valid {
		count = len(points)
	}
	if got := ustring.Count(s); got != count {
		t.Errorf("Count(%q) = %d, not %d", s, got, count)
	}
	if gotAt, gotPoints := gathered(s); !slices.Equal(gotAt, at) || !slices.Equal(gotPoints, points) {
		t.Errorf("Runes(%q) = %d %U, not %d %U", s, gotAt, gotPoints, at, points)
	}
	checkEncoding(t, s, valid)
}

// checkEncoding is for s of at most 65,535 bytes.
func checkEncoding(t *testing.T, s string, valid bool) {
	t.Helper()
	bytes := string([]byte{byte(len(s) >> 8), byte(len(s))}) + s
	text, e := ustring.Text(s)
	if valid && (text != bytes || e != api.OK) || !valid && (text != "" || e != api.ErrText) {
		t.Errorf("Text(%q) = %q %d", s, text, e)
	}
	if data, e := ustring.Binary(s); data != bytes || e != api.OK {
		t.Errorf("Binary(%q) = %q %d", s, data, e)
	}
	for _, rest := range []string{"", "\x00", "z\xff"} {
		got, size, e := ustring.Read(bytes + rest)
		if valid && (got != s || size != len(bytes) || e != api.OK) || !valid && (got != "" || size != 0 || e != api.ErrText) {
			t.Errorf("Read(%q) = %q %d %d", bytes+rest, got, size, e)
		}
		if got, size, e := ustring.ReadBinary(bytes + rest); got != s || size != len(bytes) || e != api.OK {
			t.Errorf("ReadBinary(%q) = %q %d %d", bytes+rest, got, size, e)
		}
	}
}

// P3.1: what is valid, and where it is not.
func TestKnown(t *testing.T) {
	for _, c := range []struct {
		s   string
		bad int
	}{
		{"", -1},
		{"A", -1},
		{"\x01", -1},
		{"\x7f", -1},
		{"\x00", 0},
		{"a\x00b", 1},
		{"ab\xc3\xa4\x00", 4},
		{"\x80", 0},
		{"\xbf", 0},
		{"\xc0\x80", 0},                 // U+0000, too long
		{"\xc1\xbf", 0},                 // U+007F, too long
		{"\xc2\x80", -1},                // U+0080
		{"\xc2", 0},                     // cut short
		{"\xc2A", 0},                    // broken off
		{"\xdf\xbf", -1},                // U+07FF
		{"\xe0\x9f\xbf", 0},             // U+07FF, too long
		{"\xe0\xa0\x80", -1},            // U+0800
		{"\xe2\x82", 0},                 // cut short
		{"\xed\x9f\xbf", -1},            // U+D7FF
		{"\xed\xa0\x80", 0},             // U+D800, a surrogate
		{"\xed\xbf\xbf", 0},             // U+DFFF, a surrogate
		{"\xed\xa0\xbd\xed\xb8\x80", 0}, // a pair of surrogates
		{"\xee\x80\x80", -1},            // U+E000
		{"\xef\xbb\xbf", -1},            // U+FEFF is allowed anywhere
		{"\xef\xbf\xbd", -1},            // U+FFFD itself
		{"\xef\xbf\xbd\xef\xbf", 3},     // the same, cut short
		{"\xef\xbf\xbf", -1},            // U+FFFF, not a character, but a code point
		{"\xf0\x8f\xbf\xbf", 0},         // U+FFFF, too long
		{"\xf0\x90\x80\x80", -1},        // U+10000
		{"\xf0\x9f\x98\x80", -1},
		{"\xf0\x9f\x98", 0},      // cut short
		{"\xf4\x8f\xbf\xbf", -1}, // U+10FFFF
		{"\xf4\x90\x80\x80", 0},  // U+110000
		{"\xf8\x88\x80\x80\x80", 0},
		{"\xff", 0},
		{"a\xc3\xa4\xe2\x82\xac\xf0\x9f\x98\x80\xff", 10},
	} {
		if got := ustring.Bad(c.s); got != c.bad {
			t.Errorf("Bad(%q) = %d, not %d", c.s, got, c.bad)
		}
		check(t, c.s)
	}
}

// P3.1: each code point alone, and each number that is none in the form it would have.
func TestPoints(t *testing.T) {
	for n := range 0x110000 {
		s := string([]byte{0xf0 | byte(n>>18), 0x80 | byte(n>>12&0x3f), 0x80 | byte(n>>6&0x3f), 0x80 | byte(n&0x3f)})
		switch {
		case n < 0x80:
			s = string([]byte{byte(n)})
		case n < 0x800:
			s = string([]byte{0xc0 | s[2]&0x1f, s[3]})
		case n < 0x10000:
			s = string([]byte{0xe0 | s[1]&0x0f, s[2], s[3]})
		}
		is := n != 0 && (n < 0xd800 || n > 0xdfff)
		if ustring.Valid(s) != is || ustring.Valid("a"+s+"z") != is || (ustring.Bad("a"+s+"z") < 0) != is {
			t.Fatalf("U+%04X %q: %v", n, s, ustring.Valid(s))
		}
		at, points := gathered("a" + s + "z")
		if is && (len(points) != 3 || points[1] != rune(n) || at[2] != 1+len(s)) || !is && len(points) != 1 {
			t.Fatalf("U+%04X %q: %d %U", n, s, at, points)
		}
	}
}

// P3.1 and P3.2: all strings of up to three of the bytes at the edges, and those of four and five that begin as a long code point does.
func TestEdges(t *testing.T) {
	all := []string{""}
	for from, size := 0, 0; size < 3; size++ {
		to := len(all)
		for _, s := range all[from:to] {
			for _, b := range []byte(edges) {
				all = append(all, s+string([]byte{b}))
			}
		}
		from = to
	}
	for _, s := range all {
		check(t, s)
		if len(s) != 3 {
			continue
		}
		for _, long := range []string{"\xf0", "\xf0\x90", "\xf1\x80", "\xf4\x8f", "\xf4\x90", "\xe0\xa0", "\xed"} {
			check(t, long+s)
		}
	}
}

// P3.1: Bad and Runes do not ask for the length; Valid and Count do.
func TestLong(t *testing.T) {
	for _, c := range []struct {
		s     string
		valid bool
		count int
	}{
		{strings.Repeat("a", 65535), true, 65535},
		{strings.Repeat("a", 65536), false, 0},
		{strings.Repeat("\xe2\x82\xac", 21845), true, 21845},
		{strings.Repeat("\xe2\x82\xac", 21845) + "a", false, 0},
		{strings.Repeat("\xc3\xa4", 100000), false, 0},
	} {
		if ustring.Valid(c.s) != c.valid || ustring.Count(c.s) != c.count || ustring.Bad(c.s) != -1 {
			t.Errorf("%d bytes: %v %d %d", len(c.s), ustring.Valid(c.s), ustring.Count(c.s), ustring.Bad(c.s))
		}
		if at, _ := gathered(c.s); len(at) != utf8.RuneCountInString(c.s) {
			t.Errorf("%d bytes: %d code points", len(c.s), len(at))
		}
		if bad := ustring.Bad(c.s + "\x00"); bad != len(c.s) {
			t.Errorf("%d bytes and U+0000: %d", len(c.s), bad)
		}
		if at, _ := gathered(c.s + "\xff" + c.s); len(at) != utf8.RuneCountInString(c.s) {
			t.Errorf("%d bytes and another: %d code points", len(c.s), len(at))
		}
	}
}

// P3.1, rule 4: an iterator can be used more than once, and can be left early.
func TestIterator(t *testing.T) {
	points := ustring.Runes("a\xc3\xa4b\xffc")
	for range 3 {
		var early, whole []rune
		for _, point := range points {
			early = append(early, point)
			if point == 0xe4 {
				break
			}
		}
		for _, point := range points {
			whole = append(whole, point)
			for range points { // one within another
				break
			}
		}
		if string(early) != "a\u00e4" || string(whole) != "a\u00e4b" {
			t.Errorf("%q %q", string(early), string(whole))
		}
	}
	for _, s := range []string{"", "\x00", "\xff", "\x00a"} {
		if points := ustring.Runes(s); points == nil {
			t.Errorf("%q: nil", s)
		}
		if at, _ := gathered(s); len(at) != 0 {
			t.Errorf("%q: %d", s, at)
		}
	}
}

// P3.2: the longest strings, and those that are too long.
func TestLongEncodings(t *testing.T) {
	longest, long := strings.Repeat("a", 65535), strings.Repeat("a", 65536)
	checkEncoding(t, longest, true)
	checkEncoding(t, longest[1:]+"\x00", false)
	checkEncoding(t, strings.Repeat("\xff", 65535), false)
	for _, s := range []string{long, long + long, strings.Repeat("\xff", 65536)} {
		if got, e := ustring.Text(s); got != "" || e != api.ErrText {
			t.Errorf("Text of %d bytes: %d bytes, %d", len(s), len(got), e)
		}
		if got, e := ustring.Binary(s); got != "" || e != api.ErrArg {
			t.Errorf("Binary of %d bytes: %d bytes, %d", len(s), len(got), e)
		}
	}
}

// P3.2: what ends too early, at each place. That is told ahead of what is not valid.
func TestShort(t *testing.T) {
	for _, s := range []string{"a", "ab\xc3\xa4", "\xff\xff\xff", "\x00\x00", strings.Repeat("a", 258)} {
		whole, _ := ustring.Binary(s)
		for end := range len(whole) {
			if text, size, e := ustring.Read(whole[:end]); text != "" || size != 0 || e != api.ErrShort {
				t.Errorf("Read(%q) = %q %d %d", whole[:end], text, size, e)
			}
			if data, size, e := ustring.ReadBinary(whole[:end]); data != "" || size != 0 || e != api.ErrShort {
				t.Errorf("ReadBinary(%q) = %q %d %d", whole[:end], data, size, e)
			}
		}
	}
}

// P3.2: the numbers of the document are those of api.
func TestNumbers(t *testing.T) {
	if api.ErrArg != 2 || api.ErrShort != 3 || api.ErrText != 6 || api.MostText != 65535 {
		t.Error(api.ErrArg, api.ErrShort, api.ErrText, api.MostText)
	}
}

// P3.3: what is written is read, and what is read is written in the same way.
func TestThereAndBack(t *testing.T) {
	for _, s := range []string{"", "A", "a/b", "\xc3\xa4", "\xef\xbf\xbd", "\xf4\x8f\xbf\xbf", strings.Repeat("\xc3\xa4", 32767)} {
		bytes, e := ustring.Text(s)
		if e != api.OK {
			t.Fatalf("%q: %d", s, e)
		}
		text, size, e := ustring.Read(bytes + "rest")
		if text != s || size != len(s)+2 || e != api.OK {
			t.Errorf("%q: %q %d %d", s, text, size, e)
		}
		if again, e := ustring.Text(text); again != bytes || e != api.OK {
			t.Errorf("%q: %q %d", s, again, e)
		}
	}
	for _, s := range []string{"\x00\x00", "\x00\x01\xff", "\x01\x00" + strings.Repeat("\x00", 256)} {
		data, size, e := ustring.ReadBinary(s)
		again, _ := ustring.Binary(data)
		if size != len(s) || e != api.OK || again != s {
			t.Errorf("%q: %q %d %d", s, data, size, e)
		}
	}
}

// P3.3: a string is valid if and only if both of its halves are.
func TestHalves(t *testing.T) {
	pieces := []string{"", "a", "\xc3\xa4", "\xe2\x82\xac", "\xf0\x9f\x98\x80", "\xef\xbf\xbd", "\x00", "\xff", "\xed\xa0\x80", "\xc0\x80", "a\xffb", "a\x00b"}
	for _, left := range pieces {
		for _, right := range pieces {
			if ustring.Valid(left+right) != (ustring.Valid(left) && ustring.Valid(right)) {
				t.Errorf("%q and %q: %v", left, right, ustring.Valid(left+right))
			}
		}
	}
	s := "a\xc3\xa4\xe2\x82\xac\xf0\x9f\x98\x80\xef\xbf\xbdz"
	for i := range ustring.Runes(s) {
		if !ustring.Valid(s[:i]) || !ustring.Valid(s[i:]) {
			t.Errorf("%q and %q", s[:i], s[i:])
		}
	}
}
