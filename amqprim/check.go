package amqprim

import (
	"strings"
	"unicode/utf8"

	"polyglot/api"
	"polyglot/octet"
	"polyglot/ustring"
)

const numberBits = 64

// Check returns what is wrong with a scalar.
func Check(v api.Value) api.Errno {
	switch {
	case v.Kind < api.KindNull || v.Kind > api.KindSymbol:
		return api.ErrKind
	case !room(widest(v.Kind), v) || !numberOf(v.Kind, v.N) || len(v.Items) > 0:
		return api.ErrArg
	case len(v.Text) > api.MostPacket:
		return api.ErrLong
	case !textOf(v.Kind, v.Text):
		return api.ErrText
	}
	return api.OK
}

// room returns whether the data of a constructor can say what is in a value of its kind. What they say nothing about has to be 0 or empty.
func room(c api.Ctor, v api.Value) bool {
	switch {
	case c.Sized:
		return v.N == 0 && says(v.Kind, uint64(len(v.Text)), c.Width)
	case c.Width == textWidth:
		return v.N == 0 && len(v.Text) == textWidth
	case c.Code == trueCode:
		return v.N == 1 && v.Text == ""
	}
	return says(v.Kind, v.N, c.Width) && v.Text == ""
}

// says returns whether so many bytes can say n: whether they stand for it again.
func says(kind int, n uint64, size int) bool {
	return number(kind, octet.Put(n, size)) == n
}

// number returns for which number bytes stand in a kind. In two's complement their first bit stands for all those ahead of it, too, which an arithmetic shift to the right repeats.
func number(kind int, bytes string) uint64 {
	n := octet.Get(bytes)
	if !signed(kind) {
		return n
	}
	ahead := numberBits - 8*len(bytes)
	return uint64(int64(n<<ahead) >> ahead)
}

func signed(kind int) bool {
	switch kind {
	case api.KindByte, api.KindShort, api.KindInt, api.KindLong, api.KindTime:
		return true
	}
	return false
}

// numberOf returns whether a number for which there is room is one of its kind.
func numberOf(kind int, n uint64) bool {
	switch kind {
	case api.KindBool:
		return n <= 1
	case api.KindChar:
		return n <= utf8.MaxRune && utf8.ValidRune(rune(n))
	}
	return true
}

// textOf returns whether a text is one of its kind.
func textOf(kind int, text string) bool {
	switch kind {
	case api.KindString:
		return unicodeText(text)
	case api.KindSymbol:
		return ascii(text)
	}
	return true
}

// unicodeText returns whether a text is UTF-8. Package ustring allows no zero characters, hence it is asked about what lies between them.
func unicodeText(text string) bool {
	for part := range strings.SplitSeq(text, "\x00") {
		if ustring.Bad(part) >= 0 {
			return false
		}
	}
	return true
}

func ascii(text string) bool {
	for i := range len(text) {
		if text[i] >= utf8.RuneSelf {
			return false
		}
	}
	return true
}
