package prop_test

import (
	"fmt"
	"math"
	"slices"
	"strconv"
	"strings"
	"testing"

	"polyglot/api"
	"polyglot/prop"
	"polyglot/topic"
	"polyglot/ustring"
)

const most = 65535 // bytes of a string

// row is a line of the document's table: an ID, its shape, the kinds that may have it, and what N may be.
type row struct {
	id, shape int
	kinds     string
	from, to  uint32
}

const (
	one = iota + 1
	two
	four
	variable
	text
	binary
	pair
)

var table = []row{
	{1, one, "3 16", 0, 1},
	{2, four, "3 16", 0, math.MaxUint32},
	{3, text, "3 16", 0, 0},
	{8, text, "3 16", 0, 0},
	{9, binary, "3 16", 0, 0},
	{11, variable, "3 8", 1, 268435455},
	{17, four, "1 2 14", 0, math.MaxUint32},
	{18, text, "2", 0, 0},
	{19, two, "2", 0, 65535},
	{21, text, "1 2 15", 0, 0},
	{22, binary, "1 2 15", 0, 0},
	{23, one, "1", 0, 1},
	{24, four, "16", 0, math.MaxUint32},
	{25, one, "1", 0, 1},
	{26, text, "2", 0, 0},
	{28, text, "2 14", 0, 0},
	{31, text, "2 4 5 6 7 9 11 14 15", 0, 0},
	{33, two, "1 2", 1, 65535},
	{34, two, "1 2", 0, 65535},
	{35, two, "3", 1, 65535},
	{36, one, "2", 0, 1},
	{37, one, "2", 0, 1},
	{38, pair, "1 2 3 4 5 6 7 8 9 10 11 14 15 16", 0, 0},
	{39, four, "1 2", 1, math.MaxUint32},
	{40, one, "2", 0, 1},
	{41, one, "2", 0, 1},
	{42, one, "2", 0, 1},
}

// find returns the line of an ID; its shape is 0 if there is none.
func find(id int) row {
	for _, r := range table {
		if r.id == id {
			return r
		}
	}
	return row{}
}

func (r row) has(kind int) bool {
	return slices.Contains(strings.Fields(r.kinds), strconv.Itoa(kind))
}

func repeatable(kind, id int) bool {
	return find(id).has(kind) && (id == 38 || id == 11 && kind == 3)
}

// meantCheck is what Check is to return, by the words of the document.
func meantCheck(kind int, p api.Prop) api.Errno {
	r := find(p.ID)
	if !r.has(kind) {
		return api.ErrProp
	}
	if r.shape >= text && p.N != 0 || r.shape < text && p.Text != "" || r.shape != pair && p.Value != "" {
		return api.ErrArg
	}
	if r.shape < text && (p.N < r.from || p.N > r.to) {
		return api.ErrProp
	}
	if (r.shape == text || r.shape == pair) && !ustring.Valid(p.Text) || r.shape == pair && !ustring.Valid(p.Value) {
		return api.ErrText
	}
	if p.ID == 8 && !topic.Name(p.Text) {
		return api.ErrProp
	}
	if r.shape == binary && len(p.Text) > most {
		return api.ErrArg
	}
	return api.OK
}

// meantValid is what Valid is to return; the bytes of a list that is not too long are never too many.
func meantValid(kind int, l []api.Prop) api.Errno {
	if len(l) > 1000 {
		return api.ErrLong
	}
	for i, p := range l {
		if e := meantCheck(kind, p); e != api.OK {
			return e
		}
		if occurs(l[:i], p.ID) && !repeatable(kind, p.ID) {
			return api.ErrProp
		}
	}
	if occurs(l, 22) && !occurs(l, 21) {
		return api.ErrProp
	}
	return api.OK
}

func occurs(l []api.Prop, id int) bool {
	return slices.ContainsFunc(l, func(p api.Prop) bool { return p.ID == id })
}

// number puts the lowest size bytes of n.
func number(n uint32, size int) string {
	return string([]byte{byte(n >> 24), byte(n >> 16), byte(n >> 8), byte(n)}[4-size:])
}

// seven puts n by seven bits a byte.
func seven(n int) string {
	var s []byte
	for ; n > 127; n /= 128 {
		s = append(s, byte(n%128+128))
	}
	return string(append(s, byte(n)))
}

func long(s string) string {
	return number(uint32(len(s)), 2) + s
}

// meantBody is the encoding of a valid list, without its length.
func meantBody(l []api.Prop) string {
	var b strings.Builder
	for _, p := range l {
		b.WriteByte(byte(p.ID))
		switch find(p.ID).shape {
		case one:
			b.WriteString(number(p.N, 1))
		case two:
			b.WriteString(number(p.N, 2))
		case four:
			b.WriteString(number(p.N, 4))
		case variable:
			b.WriteString(seven(int(p.N)))
		case text, binary:
			b.WriteString(long(p.Text))
		case pair:
			b.WriteString(long(p.Text) + long(p.Value))
		}
	}
	return b.String()
}

func meantBytes(l []api.Prop) string {
	s := meantBody(l)
	return seven(len(s)) + s
}

// meantNumber cuts a number of seven bits a byte from s.
func meantNumber(s string) (n int, rest string, e api.Errno) {
	weight := 1
	for i := range len(s) {
		n += int(s[i]&127) * weight
		weight *= 128
		switch {
		case s[i] < 128 && i > 0 && s[i] == 0, s[i] >= 128 && i == 3:
			return 0, "", api.ErrBad
		case s[i] < 128:
			return n, s[i+1:], api.OK
		}
	}
	return 0, "", api.ErrShort
}

// meantLong cuts a string or binary data from s.
func meantLong(s string, data bool) (text, rest string, e api.Errno) {
	if len(s) < 2 || len(s)-2 < int(s[0])*256+int(s[1]) {
		return "", "", api.ErrBad
	}
	size := int(s[0])*256 + int(s[1])
	text, rest = s[2:2+size], s[2+size:]
	if !data && !ustring.Valid(text) {
		return "", "", api.ErrText
	}
	return text, rest, api.OK
}

// meantValue cuts the value of a property from s.
func meantValue(shape int, s string) (p api.Prop, rest string, e api.Errno) {
	switch shape {
	case one, two, four:
		size := []int{0, 1, 2, 4}[shape]
		if len(s) < size {
			return p, "", api.ErrBad
		}
		for i := range size {
			p.N = p.N*256 + uint32(s[i])
		}
		return p, s[size:], api.OK
	case variable:
		n, rest, e := meantNumber(s)
		if e != api.OK {
			return p, "", api.ErrBad
		}
		p.N = uint32(n)
		return p, rest, api.OK
	}
	p.Text, rest, e = meantLong(s, shape == binary)
	if shape == pair && e == api.OK {
		p.Value, rest, e = meantLong(rest, false)
	}
	return p, rest, e
}

// meantRead is what Read is to return, by the words of the document.
func meantRead(kind int, s string) ([]api.Prop, int, api.Errno) {
	length, rest, e := meantNumber(s)
	if e != api.OK {
		return nil, 0, e
	}
	if len(rest) < length {
		return nil, 0, api.ErrShort
	}
	var l []api.Prop
	for body := rest[:length]; body != ""; {
		id := int(body[0])
		if !find(id).has(kind) {
			return nil, 0, api.ErrProp
		}
		p, after, e := meantValue(find(id).shape, body[1:])
		p.ID = id
		if e == api.OK {
			e = meantCheck(kind, p)
		}
		if e == api.OK && occurs(l, id) && !repeatable(kind, id) {
			e = api.ErrProp
		}
		if e == api.OK && len(l) == 1000 {
			e = api.ErrLong
		}
		if e != api.OK {
			return nil, 0, e
		}
		l, body = append(l, p), after
	}
	if occurs(l, 22) && !occurs(l, 21) {
		return nil, 0, api.ErrProp
	}
	return l, len(s) - len(rest) + length, api.OK
}

// show tells properties for a message: quoted, and not at their full length.
func show(l ...api.Prop) string {
	return fmt.Sprintf("%.300s", fmt.Sprintf("%#v", l))
}

// checkRead holds Read against what is meant, and what it read against what is written of it.
func checkRead(t *testing.T, kind int, s string) {
	t.Helper()
	want, wantSize, wantE := meantRead(kind, s)
	got, size, e := prop.Read(kind, s)
	if !slices.Equal(got, want) || size != wantSize || e != wantE {
		t.Fatalf("Read(%d, %.80x): %s %d %d, not %s %d %d", kind, s, show(got...), size, e, show(want...), wantSize, wantE)
	}
	if e != api.OK {
		return
	}
	if back, e := prop.Bytes(kind, got); back != s[:size] || e != api.OK {
		t.Fatalf("Read(%d, %.80x), and Bytes: %.80x %d", kind, s, back, e)
	}
}

// checkList holds Valid and Bytes against what is meant, and what was written against what is read of it.
func checkList(t *testing.T, kind int, l []api.Prop) {
	t.Helper()
	want := meantValid(kind, l)
	if e := prop.Valid(kind, l); e != want {
		t.Fatalf("Valid(%d, %s): %d, not %d", kind, show(l...), e, want)
	}
	s, e := prop.Bytes(kind, l)
	if e != want || e != api.OK && s != "" || e == api.OK && s != meantBytes(l) {
		t.Fatalf("Bytes(%d, %s): %.80x %d", kind, show(l...), s, e)
	}
	if e != api.OK {
		return
	}
	for _, more := range []string{"", "\x00", "\x26\xff"} {
		if back, size, e := prop.Read(kind, s+more); !slices.Equal(back, l) || size != len(s) || e != api.OK {
			t.Fatalf("Bytes(%d, %s), and Read: %s %d %d", kind, show(l...), show(back...), size, e)
		}
	}
}

// sample is a valid property with that ID.
func sample(id int) api.Prop {
	r := find(id)
	switch r.shape {
	case text, binary:
		return api.Prop{ID: id, Text: "a/b"}
	case pair:
		return api.Prop{ID: id, Text: "k", Value: "v"}
	}
	return api.Prop{ID: id, N: 1}
}

var numbers = []int{math.MinInt, math.MinInt32, -1 << 16, -65, -64, -63, -2, -1, 64, 65, 1 << 8, 1<<8 + 1, 1<<8 + 38, 1<<32 + 1, 1<<32 + 38, math.MaxInt}

// P5.1: the shape of every ID.
func TestShape(t *testing.T) {
	ids := slices.Clone(numbers)
	for id := range 300 {
		ids = append(ids, id)
	}
	for _, id := range ids {
		if got := prop.Shape(id); got != find(id).shape {
			t.Errorf("Shape(%d): %d", id, got)
		}
	}
}

// P5.1: which kinds may have which properties, and which of them repeatedly.
func TestMayMany(t *testing.T) {
	kinds, ids := slices.Clone(numbers), slices.Clone(numbers)
	for n := range 80 {
		kinds, ids = append(kinds, n), append(ids, n)
	}
	for _, kind := range kinds {
		for _, id := range ids {
			if got := prop.May(kind, id); got != find(id).has(kind) {
				t.Errorf("May(%d, %d): %v", kind, id, got)
			}
			if got := prop.Many(kind, id); got != repeatable(kind, id) {
				t.Errorf("Many(%d, %d): %v", kind, id, got)
			}
		}
	}
}

// P5.1: known properties, and which error comes first.
func TestCheck(t *testing.T) {
	word := strings.Repeat("a", most)
	for _, c := range []struct {
		kind int
		p    api.Prop
		want api.Errno
	}{
		{3, api.Prop{ID: 1}, api.OK},
		{3, api.Prop{ID: 1, N: 1}, api.OK},
		{3, api.Prop{ID: 1, N: 2}, api.ErrProp},
		{3, api.Prop{ID: 1, N: 256}, api.ErrProp},
		{3, api.Prop{ID: 2, N: math.MaxUint32}, api.OK},
		{3, api.Prop{ID: 11}, api.ErrProp},
		{3, api.Prop{ID: 11, N: 1}, api.OK},
		{8, api.Prop{ID: 11, N: 268435455}, api.OK},
		{8, api.Prop{ID: 11, N: 268435456}, api.ErrProp},
		{8, api.Prop{ID: 11, N: math.MaxUint32}, api.ErrProp},
		{2, api.Prop{ID: 19, N: 65535}, api.OK},
		{2, api.Prop{ID: 19, N: 65536}, api.ErrProp},
		{2, api.Prop{ID: 33}, api.ErrProp},
		{2, api.Prop{ID: 34}, api.OK},
		{3, api.Prop{ID: 35}, api.ErrProp},
		{2, api.Prop{ID: 39}, api.ErrProp},
		{2, api.Prop{ID: 39, N: math.MaxUint32}, api.OK},
		{3, api.Prop{ID: 3}, api.OK},
		{3, api.Prop{ID: 3, Text: word}, api.OK},
		{3, api.Prop{ID: 3, Text: word + "a"}, api.ErrText},
		{3, api.Prop{ID: 3, Text: "a\x00"}, api.ErrText},
		{3, api.Prop{ID: 3, Text: "a+"}, api.OK},
		{3, api.Prop{ID: 8}, api.ErrProp},
		{3, api.Prop{ID: 8, Text: "a/b"}, api.OK},
		{3, api.Prop{ID: 8, Text: "a/+"}, api.ErrProp},
		{16, api.Prop{ID: 8, Text: "#"}, api.ErrProp},
		{16, api.Prop{ID: 8, Text: "#\xff"}, api.ErrText},
		{16, api.Prop{ID: 8, Text: word + "#"}, api.ErrText},
		{3, api.Prop{ID: 9, Text: "\x00\xff"}, api.OK},
		{3, api.Prop{ID: 9, Text: word}, api.OK},
		{3, api.Prop{ID: 9, Text: word + "a"}, api.ErrArg},
		{10, api.Prop{ID: 38}, api.OK},
		{10, api.Prop{ID: 38, Text: word, Value: word}, api.OK},
		{10, api.Prop{ID: 38, Text: word + "a"}, api.ErrText},
		{10, api.Prop{ID: 38, Value: word + "a"}, api.ErrText},
		{10, api.Prop{ID: 38, Value: "\xc0\x80"}, api.ErrText},
		{10, api.Prop{ID: 38, Text: "\xed\xa0\x80"}, api.ErrText},
		{12, api.Prop{ID: 38}, api.ErrProp},
		{0, api.Prop{ID: 38}, api.ErrProp},
		{3, api.Prop{}, api.ErrProp},
		{3, api.Prop{ID: 4}, api.ErrProp},
		{3, api.Prop{ID: -1}, api.ErrProp},
		// the first of several
		{1, api.Prop{ID: 1, N: 2, Text: "x"}, api.ErrProp}, // not this kind, before the text
		{3, api.Prop{ID: 1, N: 2, Text: "x"}, api.ErrArg},  // the text, before N
		{3, api.Prop{ID: 11, Value: "x"}, api.ErrArg},
		{3, api.Prop{ID: 3, N: 1, Text: "\xff"}, api.ErrArg}, // N, before the string
		{3, api.Prop{ID: 3, Value: "x", Text: "\xff"}, api.ErrArg},
		{3, api.Prop{ID: 9, N: 1}, api.ErrArg},
		{3, api.Prop{ID: 9, Value: "x"}, api.ErrArg},
		{3, api.Prop{ID: 38, N: 1, Text: "\xff"}, api.ErrArg},
		{1, api.Prop{ID: 3, Text: "\xff"}, api.ErrProp}, // not this kind, before the string
	} {
		if got := prop.Check(c.kind, c.p); got != c.want {
			t.Errorf("Check(%d, %s): %d, not %d", c.kind, show(c.p), got, c.want)
		}
	}
}

// P5.1: every kind and ID, with all fields at their edges.
func TestCheckEvery(t *testing.T) {
	texts := []string{"", "a", "a/+", "\xff", strings.Repeat("a", most+1)}
	for kind := -1; kind <= 18; kind++ {
		for id := -1; id <= 44; id++ {
			for _, n := range []uint32{0, 1, 2, 255, 256, 65535, 65536, 268435455, 268435456, math.MaxUint32} {
				for _, first := range texts {
					for _, second := range texts {
						p := api.Prop{ID: id, N: n, Text: first, Value: second}
						if got, want := prop.Check(kind, p), meantCheck(kind, p); got != want {
							t.Fatalf("Check(%d, %s): %d, not %d", kind, show(p), got, want)
						}
					}
				}
			}
		}
	}
}

// P5.2: known lists, and which error comes first.
func TestValid(t *testing.T) {
	good, bad, method, data := sample(38), api.Prop{ID: 38, Text: "\xff"}, sample(21), sample(22)
	for _, c := range []struct {
		kind int
		l    []api.Prop
		want api.Errno
	}{
		{3, nil, api.OK},
		{12, []api.Prop{}, api.OK},
		{12, []api.Prop{good}, api.ErrProp},
		{0, []api.Prop{good}, api.ErrProp},
		{3, []api.Prop{sample(1), sample(2), sample(3)}, api.OK},
		{3, []api.Prop{sample(1), sample(2), sample(1)}, api.ErrProp},
		{3, []api.Prop{{ID: 1}, {ID: 1, N: 1}}, api.ErrProp},
		{3, []api.Prop{good, good, {ID: 38}, good}, api.OK},
		{3, []api.Prop{sample(11), sample(11), {ID: 11, N: 9}}, api.OK},
		{8, []api.Prop{sample(11)}, api.OK},
		{8, []api.Prop{sample(11), good, sample(11)}, api.ErrProp},
		{1, []api.Prop{data}, api.ErrProp},
		{2, []api.Prop{data, sample(19)}, api.ErrProp},
		{15, []api.Prop{data, method}, api.OK},
		{15, []api.Prop{method, data}, api.OK},
		{15, []api.Prop{method}, api.OK},
		{1, []api.Prop{{ID: 22}}, api.ErrProp}, // also if it is empty
		{1, []api.Prop{{ID: 22}, {ID: 21}}, api.OK},
		// the first of several
		{3, []api.Prop{bad, sample(18)}, api.ErrText},
		{3, []api.Prop{sample(18), bad}, api.ErrProp},
		{3, []api.Prop{sample(1), {ID: 1, N: 1, Text: "x"}}, api.ErrArg}, // its own, before that it occurred
		{3, []api.Prop{sample(1), sample(1), bad}, api.ErrProp},
		{1, []api.Prop{data, bad}, api.ErrText}, // before 21 is missed
		{1, []api.Prop{data, data, bad}, api.ErrProp},
	} {
		if got := prop.Valid(c.kind, c.l); got != c.want || meantValid(c.kind, c.l) != c.want {
			t.Errorf("Valid(%d, %s): %d, not %d", c.kind, show(c.l...), got, c.want)
		}
		checkList(t, c.kind, c.l)
	}
}

// P5.2 and P5.4: all lists of three properties, good and bad, for each kind.
func TestListsEvery(t *testing.T) {
	props := []api.Prop{
		sample(1), sample(8), sample(9), sample(11), sample(17), sample(21), sample(22), sample(31), sample(38),
		{ID: 11, N: 128}, {ID: 22}, {ID: 38}, {ID: 1, Value: "x"}, {ID: 31, Text: "\x00"}, {ID: 35}, {ID: 4},
	}
	for kind := 0; kind <= 17; kind++ {
		for _, a := range props {
			checkList(t, kind, []api.Prop{a})
			for _, b := range props {
				checkList(t, kind, []api.Prop{a, b})
				for _, c := range props {
					checkList(t, kind, []api.Prop{a, b, c})
				}
			}
		}
	}
}

// P5.2: at most 1,000 properties; one more is too many before all else.
func TestMostProps(t *testing.T) {
	full := slices.Repeat([]api.Prop{sample(38)}, 1000)
	checkList(t, 3, full)
	checkList(t, 3, append(slices.Clone(full), sample(38)))
	if e := prop.Valid(3, slices.Repeat([]api.Prop{{ID: 4}}, 1001)); e != api.ErrLong {
		t.Error(e)
	}
	if e := prop.Valid(3, slices.Repeat([]api.Prop{{ID: 4}}, 1000)); e != api.ErrProp {
		t.Error(e)
	}
	if s, e := prop.Bytes(12, make([]api.Prop, 1001)); s != "" || e != api.ErrLong {
		t.Error(s, e)
	}
}

// P5.2 and P5.4: the longest list there is, whose bytes are still not too many.
func TestLongest(t *testing.T) {
	word := strings.Repeat("a", most)
	l := slices.Repeat([]api.Prop{{ID: 38, Text: word, Value: word}}, 1000)
	s, e := prop.Bytes(3, l)
	if want := seven(1000*131075) + "\x26\xff\xff" + word + "\xff\xff" + word + "\x26"; len(s) != 4+1000*131075 || !strings.HasPrefix(s, want) || e != api.OK {
		t.Fatal(len(s), e)
	}
	if back, size, e := prop.Read(3, s); !prop.Same(back, l) || size != len(s) || e != api.OK {
		t.Error(len(back), size, e)
	}
}

// P5.2: known bytes, which are read back.
func TestBytes(t *testing.T) {
	for _, c := range []struct {
		kind int
		l    []api.Prop
		want string
	}{
		{3, nil, "\x00"},
		{3, []api.Prop{{ID: 1, N: 1}}, "\x02\x01\x01"},
		{3, []api.Prop{{ID: 2, N: 0x01020304}}, "\x05\x02\x01\x02\x03\x04"},
		{3, []api.Prop{{ID: 3, Text: "A"}}, "\x04\x03\x00\x01A"},
		{3, []api.Prop{{ID: 3}}, "\x03\x03\x00\x00"},
		{3, []api.Prop{{ID: 9, Text: "\x00\xff"}}, "\x05\x09\x00\x02\x00\xff"},
		{3, []api.Prop{{ID: 11, N: 127}}, "\x02\x0b\x7f"},
		{3, []api.Prop{{ID: 11, N: 128}}, "\x03\x0b\x80\x01"},
		{8, []api.Prop{{ID: 11, N: 268435455}}, "\x05\x0b\xff\xff\xff\x7f"},
		{3, []api.Prop{{ID: 35, N: 258}}, "\x03\x23\x01\x02"},
		{3, []api.Prop{{ID: 38, Text: "a", Value: "b"}}, "\x07\x26\x00\x01a\x00\x01b"},
		{3, []api.Prop{{ID: 38}}, "\x05\x26\x00\x00\x00\x00"},
		{3, []api.Prop{{ID: 38, Value: "b"}, {ID: 1}, {ID: 38, Text: "a"}}, "\x0e\x26\x00\x00\x00\x01b\x01\x00\x26\x00\x01a\x00\x00"},
		{1, []api.Prop{{ID: 22, Text: "\x00"}, {ID: 21, Text: "m"}}, "\x08\x16\x00\x01\x00\x15\x00\x01m"},
		{3, []api.Prop{{ID: 3, Text: strings.Repeat("a", 124)}}, "\x7f\x03\x00\x7c" + strings.Repeat("a", 124)},
		{3, []api.Prop{{ID: 3, Text: strings.Repeat("a", 125)}}, "\x80\x01\x03\x00\x7d" + strings.Repeat("a", 125)},
	} {
		if got, e := prop.Bytes(c.kind, c.l); got != c.want || e != api.OK {
			t.Errorf("Bytes(%d, %s): %x %d", c.kind, show(c.l...), got, e)
		}
		checkList(t, c.kind, c.l)
	}
}

// P5.3: known bytes that are wrong, and which error comes first.
func TestReadWrong(t *testing.T) {
	for _, c := range []struct {
		kind int
		s    string
		want api.Errno
	}{
		{3, "", api.ErrShort},
		{3, "\x80", api.ErrShort},
		{3, "\x80\x80\x80", api.ErrShort},
		{3, "\x80\x00", api.ErrBad},
		{3, "\x80\x80\x80\x80", api.ErrBad},
		{3, "\x80\x80\x80\x80\x01", api.ErrBad},
		{3, "\xff\xff\xff\x7f", api.ErrShort},
		{3, "\x01", api.ErrShort},
		{3, "\x03\x01\x01", api.ErrShort},
		{3, "\x03\x04\x01", api.ErrShort},             // before the ID
		{3, "\x01\x04", api.ErrProp},                  // the ID, before its value
		{3, "\x01\x00", api.ErrProp},                  // there is no 0
		{3, "\x02\x80\x01", api.ErrProp},              // an ID has one byte
		{3, "\x02\x81\x00", api.ErrProp},              // likewise
		{12, "\x05\x26\x00\x00\x00\x00", api.ErrProp}, // not this kind
		{0, "\x05\x26\x00\x00\x00\x00", api.ErrProp},
		{3, "\x01\x01", api.ErrBad},
		{3, "\x01\x01\x01", api.ErrBad}, // what follows does not belong to it
		{3, "\x04\x02\x00\x00\x00", api.ErrBad},
		{3, "\x02\x23\x00", api.ErrBad},
		{3, "\x02\x0b\x80", api.ErrBad},
		{3, "\x03\x0b\x80\x80\x01", api.ErrBad},
		{3, "\x03\x0b\x81\x00", api.ErrBad},
		{3, "\x05\x0b\x80\x80\x80\x80", api.ErrBad},
		{3, "\x02\x03\x00", api.ErrBad},
		{3, "\x03\x03\x00\x01", api.ErrBad},
		{3, "\x03\x03\x00\x01A", api.ErrBad},
		{3, "\x03\x09\x00\x01", api.ErrBad},
		{3, "\x04\x03\x00\x01\xff", api.ErrText},
		{3, "\x04\x03\x00\x01\x00", api.ErrText},
		{3, "\x04\x03\x00\x02\xff", api.ErrBad}, // its end, before its bytes
		{3, "\x02\x01\x02", api.ErrProp},
		{3, "\x02\x0b\x00", api.ErrProp},
		{3, "\x03\x23\x00\x00", api.ErrProp},
		{3, "\x03\x08\x00\x00", api.ErrProp},
		{3, "\x04\x08\x00\x01#", api.ErrProp},
		{3, "\x05\x08\x00\x02#\xff", api.ErrText},
		{3, "\x06\x26\x00\x01\xff\x00\x01", api.ErrText}, // the first string, before the second
		{3, "\x04\x26\x00\x01\xff", api.ErrText},
		{3, "\x07\x26\x00\x01\xff\x00\x01\x00", api.ErrText},
		{3, "\x05\x26\x00\x01a\x00", api.ErrBad},
		{3, "\x06\x26\x00\x01a\x00\x01", api.ErrBad},
		{3, "\x07\x26\x00\x01a\x00\x01\xff", api.ErrText},
		{3, "\x04\x26\x00\x02\xff", api.ErrBad},
		{3, "\x04\x01\x01\x01\x01", api.ErrProp}, // it occurred before
		{3, "\x04\x01\x01\x01\x00", api.ErrProp},
		{3, "\x03\x01\x01\x01", api.ErrBad}, // its value, before that it occurred
		{3, "\x09\x03\x00\x01a\x03\x00\x02\xff\xff", api.ErrText},
		{8, "\x04\x0b\x01\x0b\x01", api.ErrProp},
		{1, "\x03\x16\x00\x00", api.ErrProp},                 // without 21
		{1, "\x05\x16\x00\x00\x17\x02", api.ErrProp},         // 23 is wrong
		{1, "\x05\x16\x00\x00\x15\x00", api.ErrBad},          // 21, which is too short, before that it is missing
		{1, "\x07\x16\x00\x00\x15\x00\x01\x00", api.ErrText}, // likewise
	} {
		l, size, e := prop.Read(c.kind, c.s)
		if len(l) != 0 || size != 0 || e != c.want {
			t.Errorf("Read(%d, %x): %s %d %d, not %d", c.kind, c.s, show(l...), size, e, c.want)
		}
		if _, _, e := meantRead(c.kind, c.s); e != c.want {
			t.Errorf("meant of %d, %x: %d, not %d", c.kind, c.s, e, c.want)
		}
	}
}

// P5.3: what follows the list is left.
func TestReadLeaves(t *testing.T) {
	for _, c := range []struct {
		s    string
		size int
	}{{"\x00", 1}, {"\x00\x01\x01", 1}, {"\x02\x01\x01", 3}, {"\x02\x01\x01\x01\x01", 3}, {"\x02\x01\x01zz", 3}} {
		l, size, e := prop.Read(3, c.s)
		if len(l) != (c.size-1)/2 || size != c.size || e != api.OK {
			t.Errorf("Read(%x): %s %d %d", c.s, show(l...), size, e)
		}
	}
}

// P5.3: more than 1,000 properties; the one after them still has its own errors first.
func TestReadMost(t *testing.T) {
	const user = "\x26\x00\x00\x00\x00"
	full := strings.Repeat(user, 1000)
	for _, c := range []struct {
		kind int
		body string
		want api.Errno
	}{
		{3, full, api.OK},
		{3, full + user, api.ErrLong},
		{3, full + user + "\x04", api.ErrLong},
		{3, full + "\x04", api.ErrProp},
		{3, full + "\x01", api.ErrBad},
		{3, full + "\x01\x02", api.ErrProp},
		{3, full + "\x03\x00\x01\xff", api.ErrText},
		{3, full[5:] + "\x01\x01", api.OK},
		{3, full[5:] + "\x01\x01\x01\x01", api.ErrProp},
		{3, full[5:] + "\x01\x01\x02\x00\x00\x00\x00", api.ErrLong},
		{1, full[5:] + "\x16\x00\x00", api.ErrProp},
		{1, full[5:] + "\x16\x00\x00" + user, api.ErrLong}, // before 21 is missed
		{1, full[5:] + "\x16\x00\x00\x15\x00\x00", api.ErrLong},
		{1, full[10:] + "\x16\x00\x00\x15\x00\x00", api.OK},
		{3, strings.Repeat(user, 5000), api.ErrLong},
	} {
		s := seven(len(c.body)) + c.body
		if _, _, e := prop.Read(c.kind, s); e != c.want {
			t.Errorf("Read(%d, .. %x): %d, not %d", c.kind, c.body[max(0, len(c.body)-10):], e, c.want)
		}
		checkRead(t, c.kind, s)
	}
}

// P5.3 and P5.4: all short bytes of some that matter, with the right length, and without any.
func TestReadEvery(t *testing.T) {
	bodies := []string{""}
	for from, size := 0, 0; size < 4; size++ {
		to := len(bodies)
		for _, s := range bodies[from:to] {
			for _, b := range []byte{0, 1, 2, 3, 8, 9, 11, 21, 22, 35, 38, 'A', 0x80, 0xff} {
				bodies = append(bodies, s+string([]byte{b}))
			}
		}
		from = to
	}
	for _, body := range bodies {
		for _, kind := range []int{1, 3} {
			checkRead(t, kind, seven(len(body))+body)
			checkRead(t, kind, body)
		}
	}
}

// P5.3 and P5.4: pieces one after the other, good ones and broken ones, of each kind; whole, cut, and with something behind.
func TestReadPieces(t *testing.T) {
	pieces := []string{
		"\x01\x01", "\x01\x02", "\x02\x00\x00\x00\x09", "\x03\x00\x01a", "\x03\x00\x01\xff", "\x08\x00\x01a", "\x08\x00\x00",
		"\x09\x00\x01\xff", "\x0b\x80\x01", "\x0b\x80\x00", "\x15\x00\x00", "\x16\x00\x01\x00", "\x1f\x00\x01a", "\x21\x00\x00",
		"\x23\xff\xff", "\x26\x00\x01a\x00\x01b", "\x26\x00\x01a\x00\x01\xff", "\x26\x00\x01\xff\x00\x09", "\x27\x00\x00\x00\x01", "\x04", "\xa6\x00",
	}
	for kind := 0; kind <= 17; kind++ {
		for _, a := range pieces {
			for _, b := range pieces {
				for _, c := range pieces {
					body := a + b + c
					s := seven(len(body)) + body
					checkRead(t, kind, s)
					checkRead(t, kind, s[:len(s)-1])
					checkRead(t, kind, seven(len(body)-1)+body)
				}
			}
		}
	}
}

// P5.3: the first with an ID, of any list.
func TestGet(t *testing.T) {
	l := []api.Prop{{ID: 38, Text: "a"}, {ID: 1, N: 1}, {ID: 38, Text: "b"}, {ID: 99, Value: "x"}, {ID: -1}}
	for id, want := range map[int]int{38: 0, 1: 1, 99: 3, -1: 4} {
		if p, is := prop.Get(l, id); p != l[want] || !is {
			t.Errorf("Get of %d: %s %v", id, show(p), is)
		}
	}
	for _, id := range []int{0, 2, math.MinInt, math.MaxInt} {
		if p, is := prop.Get(l, id); p != (api.Prop{}) || is {
			t.Errorf("Get of %d: %s %v", id, show(p), is)
		}
	}
	if p, is := prop.Get(nil, 1); p != (api.Prop{}) || is {
		t.Error(p, is)
	}
	if p, is := prop.Get(make([]api.Prop, 1), 0); p != (api.Prop{}) || !is {
		t.Error(p, is)
	}
}

// P5.3: the same elements in the same order; nil and empty are the same.
func TestSame(t *testing.T) {
	a, b := sample(38), sample(1)
	same := [][]api.Prop{nil, {a}, {b}, {a, b}, {b, a}, {a, a}, {a, a, b}, {{}}, {{ID: 38}}, {{ID: 38, N: 1, Text: "k", Value: "v"}}, {{ID: 38, Text: "kv"}}, {{ID: 38, Text: "v", Value: "k"}}}
	for i, l := range same {
		for j, m := range same {
			if prop.Same(l, slices.Clone(m)) != (i == j) {
				t.Errorf("Same of %s and %s: %v", show(l...), show(m...), i != j)
			}
		}
	}
	if !prop.Same(nil, []api.Prop{}) || !prop.Same([]api.Prop{}, nil) || !prop.Same([]api.Prop{a}[:0], nil) {
		t.Error("nil and empty")
	}
}

// all returns a property of each ID that the kind may have.
func all(kind int) []api.Prop {
	var l []api.Prop
	for _, r := range table {
		if r.has(kind) {
			l = append(l, sample(r.id))
		}
	}
	return l
}

// P5.4: lists of all that a kind may have, there and back, in any order.
func TestThereAndBack(t *testing.T) {
	for kind := range 20 {
		l := all(kind)
		for range len(l) + 1 {
			checkList(t, kind, l)
			if len(l) > 0 {
				l = append(l[1:], l[0])
			}
		}
		slices.Reverse(l)
		checkList(t, kind, l)
		if prop.Valid(kind, l) != api.OK {
			t.Errorf("kind %d: all that it may have", kind)
		}
	}
}

// P5.4: every order of a valid list is valid, and none of one that is not.
func TestOrder(t *testing.T) {
	for _, c := range []struct {
		kind int
		l    []api.Prop
		is   bool
	}{
		{1, []api.Prop{sample(21), sample(22), sample(38), sample(38)}, true},
		{3, []api.Prop{sample(11), sample(11), sample(1), sample(38)}, true},
		{1, []api.Prop{sample(22), sample(38), sample(17), sample(33)}, false},
		{8, []api.Prop{sample(11), sample(38), sample(11), sample(38)}, false},
	} {
		orders(c.l, 0, func(l []api.Prop) {
			if (prop.Valid(c.kind, l) == api.OK) != c.is {
				t.Errorf("Valid(%d, %s): not %v", c.kind, show(l...), c.is)
			}
		})
	}
}

// orders calls f with each order of l from at on.
func orders(l []api.Prop, at int, f func([]api.Prop)) {
	if at == len(l) {
		f(l)
		return
	}
	for i := at; i < len(l); i++ {
		l[at], l[i] = l[i], l[at]
		orders(l, at+1, f)
		l[at], l[i] = l[i], l[at]
	}
}

// Rule 3: a list is new memory, and none is changed.
func TestNewMemory(t *testing.T) {
	const s = "\x04\x01\x01\x0b\x07"
	first, _, _ := prop.Read(3, s)
	second, _, _ := prop.Read(3, s)
	first[0].N = 99
	_ = append(first, sample(38))
	if want := []api.Prop{{ID: 1, N: 1}, {ID: 11, N: 7}}; !slices.Equal(second, want) {
		t.Error(second)
	}
	backing := []api.Prop{sample(38), sample(1), sample(2), sample(4)}
	given := slices.Clone(backing)
	prop.Valid(3, backing[:2])
	prop.Bytes(3, backing[:2])
	prop.Get(backing[:2], 1)
	if !slices.Equal(given, backing) {
		t.Error(backing)
	}
}
