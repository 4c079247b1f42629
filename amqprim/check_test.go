package amqprim_test

import (
	"math"
	"math/rand"
	"reflect"
	"strings"
	"testing"
	"unicode/utf8"

	"polyglot/amqprim"
	"polyglot/api"
)

// mostText is MostPacket, by hand.
const mostText = 1_048_576

// unsigned are the greatest numbers of the kinds that have numbers from 0 on.
var unsigned = map[string]uint64{
	"bool": 1, "ubyte": 255, "ushort": 65_535, "uint": 4_294_967_295, "ulong": 18_446_744_073_709_551_615,
	"float": 4_294_967_295, "dec32": 4_294_967_295, "double": 18_446_744_073_709_551_615, "dec64": 18_446_744_073_709_551_615,
	"char": 0x10ffff,
}

// signed are the least and the greatest numbers of the others.
var signed = map[string][2]int64{
	"byte": {-128, 127}, "short": {-32_768, 32_767}, "int": {-2_147_483_648, 2_147_483_647},
	"long": {-9_223_372_036_854_775_808, 9_223_372_036_854_775_807}, "time": {-9_223_372_036_854_775_808, 9_223_372_036_854_775_807},
}

// meantNumber returns whether a number is within the range of a kind.
func meantNumber(name string, n uint64) bool {
	if name == "char" && n >= 0xd800 && n <= 0xdfff {
		return false
	}
	if most, is := unsigned[name]; is {
		return n <= most
	}
	if span, is := signed[name]; is {
		return int64(n) >= span[0] && int64(n) <= span[1]
	}
	return n == 0
}

// meantLength returns whether a text may have that many bytes in a kind, but for the most that any may have.
func meantLength(name string, bytes int) bool {
	switch name {
	case "dec128", "uuid":
		return bytes == 16
	case "binary", "string", "symbol":
		return true
	}
	return bytes == 0
}

// meantText returns whether a text is valid for a kind.
func meantText(name, text string) bool {
	switch name {
	case "string":
		return utf8.ValidString(text)
	case "symbol":
		return strings.IndexFunc(text, func(r rune) bool { return r > 127 }) < 0
	}
	return true
}

// meantCheck is the chapter's Check, read a second time.
func meantCheck(v api.Value) api.Errno {
	if v.Kind < 1 || v.Kind > lastScalar {
		return api.ErrKind
	}
	name := nameOf(v.Kind)
	if !meantNumber(name, v.N) || !meantLength(name, len(v.Text)) || len(v.Items) > 0 {
		return api.ErrArg
	}
	if len(v.Text) > mostText {
		return api.ErrLong
	}
	if !meantText(name, v.Text) {
		return api.ErrText
	}
	return api.OK
}

// numbers are the edges of all ranges, and what lies beside them.
func numbers() []uint64 {
	l := []uint64{0xd7ff, 0xd800, 0xdbff, 0xdc00, 0xdfff, 0xe000, 0xfffd, 0x10fffe, 0x10ffff, 0x110000, 1<<32 + 0x41, 1<<40 + 1, 1<<63 + 1}
	for _, bits := range []int{0, 1, 7, 8, 15, 16, 20, 21, 31, 32, 63} {
		edge := uint64(1) << bits
		l = append(l, edge-1, edge, edge+1, -edge+1, -edge, -edge-1)
	}
	return append(l, math.MaxUint64)
}

// texts are valid ones and malformed ones, with all lengths that the chapter names but for the greatest.
func texts() []string {
	l := []string{
		"", "a", "\x00", "a\x00b", "\x00\x00", "\x7f", "\x80", "\xff", "a\x80", "\xc3\xa4", "\xc3", "\xc3\x00", "\xc3\x00\xa4",
		"\xe2\x82\xac", "\xe2\x82", "\xf0\x9f\x98\x80", "\xf0\x9f\x98", "\xed\x9f\xbf", "\xed\xa0\x80", "\xed\xbf\xbf", "\xee\x80\x80",
		"\xc0\x80", "\xc1\xbf", "\xe0\x9f\xbf", "\xf0\x8f\xbf\xbf", "\xf4\x8f\xbf\xbf", "\xf4\x90\x80\x80", "\xf8\x88\x80\x80\x80",
		"\xef\xbf\xbd", "\xef\xbf\xbe", "\xef\xbb\xbf", "ab\x00\xff", "\x00\xc3\xa4\x00", "\x00\x00\xed\xa0\x80",
		"\x00\x01\x02\x03\x04\x05\x06\x07\x08\x09\x0a\x0b\x0c\x0d\x0e\x0f", strings.Repeat("\xff", 16), strings.Repeat("\x00", 16),
	}
	for _, bytes := range []int{2, 8, 15, 16, 17, 32, 254, 255, 256, 257, 65_535, 65_536} {
		l = append(l, strings.Repeat("z", bytes))
	}
	return l
}

// kinds are all kinds, and numbers that are none.
func kinds() []int {
	l := noKinds
	for kind := range names {
		l = append(l, kind+1)
	}
	return l
}

// checked fails unless Check says what is meant.
func checked(t *testing.T, v api.Value) {
	t.Helper()
	if e, want := amqprim.Check(v), meantCheck(v); e != want {
		t.Errorf("Check(%d %#x %.40q (%d) %d items): %d, not %d", v.Kind, v.N, v.Text, len(v.Text), len(v.Items), e, want)
	}
}

// P16.1: all kinds with numbers at all edges, and all texts.
func TestCheck(t *testing.T) {
	items := [][]api.Value{nil, {}, {{Kind: api.KindNull}}, {{}}}
	for _, kind := range kinds() {
		for _, n := range numbers() {
			checked(t, api.Value{Kind: kind, N: n})
		}
		for _, text := range texts() {
			for _, l := range items {
				for _, n := range []uint64{0, 1, 1 << 40, math.MaxUint64} {
					checked(t, api.Value{Kind: kind, N: n, Text: text, Items: l})
				}
			}
		}
	}
}

// P16.1: by hand, for each kind the greatest and the least number that it may have, and those just beyond.
func TestCheckRanges(t *testing.T) {
	for _, c := range []struct {
		kind int
		in   []uint64
		out  []uint64
	}{
		{api.KindNull, []uint64{0}, []uint64{1, 1 << 63}},
		{api.KindBool, []uint64{0, 1}, []uint64{2, 255, 256, 1<<64 - 1}},
		{api.KindUbyte, []uint64{0, 255}, []uint64{256, 1<<64 - 1}},
		{api.KindUshort, []uint64{0, 65535}, []uint64{65536, 1<<64 - 1}},
		{api.KindUint, []uint64{0, 1<<32 - 1}, []uint64{1 << 32, 1<<64 - 1}},
		{api.KindUlong, []uint64{0, 1<<64 - 1}, nil},
		{api.KindByte, []uint64{0, 127, 1<<64 - 1, 1<<64 - 128}, []uint64{128, 255, 1<<64 - 129, 1 << 63}},
		{api.KindShort, []uint64{0, 32767, 1<<64 - 32768}, []uint64{32768, 65535, 1<<64 - 32769}},
		{api.KindInt, []uint64{0, 1<<31 - 1, 1<<64 - 1<<31}, []uint64{1 << 31, 1<<32 - 1, 1<<64 - 1<<31 - 1}},
		{api.KindLong, []uint64{0, 1<<63 - 1, 1 << 63, 1<<64 - 1}, nil},
		{api.KindFloat, []uint64{0, 0x7fc00000, 1<<32 - 1}, []uint64{1 << 32, 1 << 33}},
		{api.KindDouble, []uint64{0, 1<<64 - 1}, nil},
		{api.KindDec32, []uint64{0, 1<<32 - 1}, []uint64{1 << 32}},
		{api.KindDec64, []uint64{0, 1<<64 - 1}, nil},
		{api.KindChar, []uint64{0, 0xd7ff, 0xe000, 0x10ffff}, []uint64{0xd800, 0xdfff, 0x110000, 1<<32 + 0x41, 1<<64 - 1}},
		{api.KindTime, []uint64{0, 1<<63 - 1, 1 << 63, 1<<64 - 1}, nil},
		{api.KindBinary, []uint64{0}, []uint64{1, 1 << 63}},
		{api.KindString, []uint64{0}, []uint64{1, 1 << 63}},
		{api.KindSymbol, []uint64{0}, []uint64{1, 1 << 63}},
	} {
		for _, n := range c.in {
			if e := amqprim.Check(api.Value{Kind: c.kind, N: n}); e != api.OK {
				t.Errorf("Check(%d %#x): %d", c.kind, n, e)
			}
		}
		for _, n := range c.out {
			if e := amqprim.Check(api.Value{Kind: c.kind, N: n}); e != api.ErrArg {
				t.Errorf("Check(%d %#x): %d", c.kind, n, e)
			}
		}
	}
}

// P16.1: the first error is returned, where several apply.
func TestCheckOrder(t *testing.T) {
	item := []api.Value{{Kind: api.KindNull}}
	long := strings.Repeat("\xff", mostText+1)
	for _, c := range []struct {
		v    api.Value
		want api.Errno
	}{
		{api.Value{Kind: 22, N: 1, Text: long, Items: item}, api.ErrKind},
		{api.Value{Kind: 0, N: 1, Text: long, Items: item}, api.ErrKind},
		{api.Value{Kind: api.KindString, N: 1, Text: long}, api.ErrArg},
		{api.Value{Kind: api.KindString, Text: long, Items: item}, api.ErrArg},
		{api.Value{Kind: api.KindSymbol, N: 1, Text: long}, api.ErrArg},
		{api.Value{Kind: api.KindUint, Text: long}, api.ErrArg},
		{api.Value{Kind: api.KindUuid, Text: long}, api.ErrArg},
		{api.Value{Kind: api.KindDec128, N: 1, Text: long[:16]}, api.ErrArg},
		{api.Value{Kind: api.KindString, Text: long}, api.ErrLong},
		{api.Value{Kind: api.KindSymbol, Text: long}, api.ErrLong},
		{api.Value{Kind: api.KindBinary, Text: long}, api.ErrLong},
		{api.Value{Kind: api.KindBinary, Text: long[1:]}, api.OK},
		{api.Value{Kind: api.KindString, Text: long[1:]}, api.ErrText},
		{api.Value{Kind: api.KindSymbol, Text: long[1:]}, api.ErrText},
		{api.Value{Kind: api.KindString, Text: "\xff", Items: item}, api.ErrArg},
	} {
		if e := amqprim.Check(c.v); e != c.want {
			t.Errorf("Check(%d %d %.9q (%d), %d items): %d, not %d", c.v.Kind, c.v.N, c.v.Text, len(c.v.Text), len(c.v.Items), e, c.want)
		}
	}
}

// P16.1: texts of the greatest length; zeros throughout, and a fault in the last byte.
func TestCheckLong(t *testing.T) {
	for _, text := range []string{strings.Repeat("z", mostText), strings.Repeat("\x00", mostText), strings.Repeat("\xc3\xa4", mostText/2), strings.Repeat("z", mostText-1) + "\x80"} {
		for kind := range len(names) + 1 {
			checked(t, api.Value{Kind: kind, Text: text})
			checked(t, api.Value{Kind: kind, Text: text + "z"})
			checked(t, api.Value{Kind: kind, Text: text[1:]})
		}
	}
}

// P16.1: each byte alone, and each pair of bytes, as a text.
func TestCheckBytes(t *testing.T) {
	for first := range 256 {
		checked(t, api.Value{Kind: api.KindSymbol, Text: string([]byte{byte(first)})})
		checked(t, api.Value{Kind: api.KindString, Text: string([]byte{byte(first)})})
		for second := range 256 {
			text := string([]byte{byte(first), byte(second)})
			checked(t, api.Value{Kind: api.KindSymbol, Text: text})
			checked(t, api.Value{Kind: api.KindString, Text: text})
			checked(t, api.Value{Kind: api.KindString, Text: "\x00" + text + "\x00"})
		}
	}
}

// P16.1: random values of all kinds; a number may be of any length, and of both signs.
func TestCheckRandom(t *testing.T) {
	r := rand.New(rand.NewSource(16))
	for range 200_000 {
		checked(t, random(r))
	}
}

// random returns a value that may be valid or not.
func random(r *rand.Rand) api.Value {
	v := api.Value{Kind: r.Intn(24)}
	if r.Intn(3) > 0 {
		v.N = r.Uint64() >> r.Intn(65)
	}
	if r.Intn(4) == 0 {
		v.N = -v.N
	}
	name := nameOf(v.Kind)
	switch {
	case name == "dec128", name == "uuid":
		v.Text = randomText(r, 17)[:16+r.Intn(2)*r.Intn(2)]
	case name == "binary", name == "string", name == "symbol", r.Intn(9) == 0:
		v.Text = randomText(r, r.Intn(4))
	}
	if meantLength(name, 16) && r.Intn(9) > 0 { // else nearly none with a text would be valid
		v.N = 0
	}
	return v
}

// randomText returns a text of so many pieces, most of them characters.
func randomText(r *rand.Rand, pieces int) string {
	list := []string{"a", "b", "\x00", "\xc3\xa4", "\xe2\x82\xac", "\xf0\x9f\x98\x80", "\x80", "\xff"}
	text := ""
	for range pieces {
		text += list[r.Intn(len(list)-r.Intn(7))]
	}
	return text
}

// Rule 3: what is passed is neither changed nor written to.
func TestUnchanged(t *testing.T) {
	items := make([]api.Value, 1, 4)
	items[0] = api.Value{Kind: api.KindList, Items: []api.Value{{Kind: api.KindNull}}}
	want := []api.Value{{Kind: api.KindList, Items: []api.Value{{Kind: api.KindNull}}}, {}, {}, {}}
	for _, kind := range kinds() {
		v := api.Value{Kind: kind, Items: items}
		amqprim.Check(v)
		amqprim.Least(v)
		amqprim.Fits(0x70, v)
		amqprim.Put(0x70, v)
	}
	if !reflect.DeepEqual(items[:4], want) {
		t.Errorf("%v", items[:4])
	}
}
