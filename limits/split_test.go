package limits_test

import (
	"slices"
	"strings"
	"testing"

	"polyglot/api"
	"polyglot/head"
	"polyglot/limits"
	"polyglot/mqtt"
)

// result is what Split returns.
type result struct {
	packets []api.Packet
	at      int
	e       api.Errno
}

// expect wants a result of Split.
func expect(t *testing.T, version, maxPacket int, s string, want result) {
	t.Helper()
	p, at, e := limits.Split(version, limited(maxPacket), s)
	if !slices.EqualFunc(p, want.packets, head.Same) || at != want.at || e != want.e {
		t.Fatalf("Split(%d, %d, %.200x): %.400v %d %d, not %.400v %d %d", version, maxPacket, s, p, at, e, want.packets, want.at, want.e)
	}
}

// flagsFit returns whether a kind may have these flags, by the document.
func flagsFit(kind, flags int) bool {
	switch kind {
	case 3:
		return slices.Contains([]int{0, 1, 2, 3, 4, 5, 10, 11, 12, 13}, flags)
	case 6, 8, 10:
		return flags == 2
	}
	return flags == 0
}

// announced returns how many bytes a packet has by its header, which is among them, by the words of the document.
func announced(version int, s string) (size int, e api.Errno) {
	if s == "" {
		return 0, api.ErrShort
	}
	kind := int(s[0] >> 4)
	if kind == 0 || kind == 15 && version == 4 {
		return 0, api.ErrKind
	}
	if !flagsFit(kind, int(s[0]&15)) {
		return 0, api.ErrFlags
	}
	length, scale := 0, 1
	for i := 1; i <= 4; i++ {
		if i == len(s) {
			return 0, api.ErrShort
		}
		b := int(s[i])
		length += b % 128 * scale
		scale *= 128
		if b == 0 && i > 1 {
			return 0, api.ErrBad
		}
		if b < 128 {
			return i + 1 + length, api.OK
		}
	}
	return 0, api.ErrBad
}

// meant returns the packets of s by the words of the document.
func meant(version, maxPacket int, s string) (r result) {
	for {
		rest := s[r.at:]
		size, e := announced(version, rest)
		switch {
		case e == api.ErrShort:
			return r
		case e != api.OK:
			r.e = e
			return r
		case size > maxPacket:
			r.e = api.ErrLong
			return r
		case size > len(rest):
			return r
		}
		p, _, e := mqtt.Read(version, rest[:size])
		if e != api.OK {
			r.e = e
			return r
		}
		r.packets = append(r.packets, p)
		r.at += size
	}
}

// series returns packets of a version one after the other, their bytes, and where each of them ends.
func series(version int) (l []api.Packet, s string, ends []int) {
	for _, c := range samples(version) {
		l = append(l, c.p)
		s += c.s
		ends = append(ends, len(s))
	}
	return l, s, ends
}

// P15.2: packets one after the other, whole, and cut at every place: what is not complete is left.
func TestSplit(t *testing.T) {
	for _, version := range versions {
		l, s, ends := series(version)
		for _, maxPacket := range []int{18, 19, 4096, 1 << 20} {
			expect(t, version, maxPacket, s, result{l, len(s), api.OK})
			expect(t, version, maxPacket, s+s, result{slices.Concat(l, l), 2 * len(s), api.OK})
			told, at := 0, 0
			for end := range len(s) + 1 {
				if told < len(l) && ends[told] == end {
					told, at = told+1, end
				}
				expect(t, version, maxPacket, s[:end], result{l[:told], at, api.OK})
			}
		}
	}
}

// P15.2: versions and limits come first, whatever the bytes are, and nothing comes with their error.
func TestSplitArguments(t *testing.T) {
	for _, s := range []string{"", "\xc0", "\xc0\x00", "\xc0\x00\xc0", "\x00\x00", "\x30\xff\xff\xff\x7f", "\xff\xff\xff\xff\xff"} {
		for _, v := range verdicts() {
			for _, version := range slices.Concat(others, versions) {
				p, at, e := limits.Split(version, v.l, s)
				if v.is && slices.Contains(versions, version) {
					expect(t, version, v.l.MaxPacket, s, meant(version, v.l.MaxPacket, s))
				} else if p != nil || at != 0 || e != api.ErrArg {
					t.Errorf("Split(%d, %v, %x): %v %d %d", version, v.l, s, p, at, e)
				}
			}
		}
	}
}

// P15.2: the depth changes nothing.
func TestSplitDepth(t *testing.T) {
	for _, version := range versions {
		l, s, _ := series(version)
		for depth := range 33 {
			p, at, e := limits.Split(version, api.Limits{MaxPacket: 18, MaxDepth: depth}, s)
			if !slices.EqualFunc(p, l, head.Same) || at != len(s) || e != api.OK {
				t.Errorf("Split(%d, depth %d): %v %d %d", version, depth, p, at, e)
			}
		}
	}
}

// wrong are bytes that are no packets where one has 20 bytes at most, with the error of each, and how many of them tell it.
var wrong = []struct {
	version int
	s       string
	e       api.Errno
	shows   int
}{
	{4, "\x00\x00", api.ErrKind, 1},
	{4, "\xf0\x00", api.ErrKind, 1}, // only MQTT 5 has AUTH
	{5, "\x0f\x00", api.ErrKind, 1},
	{5, "\xf1\x00", api.ErrFlags, 1},
	{4, "\xc1\x00", api.ErrFlags, 1},
	{4, "\x36\x00", api.ErrFlags, 1},               // QoS 3
	{4, "\x80\x00", api.ErrFlags, 1},               // a SUBSCRIBE has 2
	{4, "\xff\xff\xff\xff\xff", api.ErrKind, 1},    // the first byte comes first
	{5, "\xc0\xff\xff\xff\xff\x01", api.ErrBad, 5}, // a fifth byte of a length
	{4, "\xc0\x80\x00", api.ErrBad, 3},             // a length longer than necessary
	{4, "\x30\x91\x00", api.ErrBad, 3},
	{4, "\x30\x13", api.ErrLong, 2}, // 21 bytes, none of which need follow
	{4, "\x30\x7f\x00\x01a", api.ErrLong, 2},
	{4, "\x30\x80\x01\x00\x01a", api.ErrLong, 3},
	{5, "\x30\xff\xff\xff\x7f", api.ErrLong, 5},
	{4, "\xc0\x13" + strings.Repeat("x", 19), api.ErrLong, 2}, // ahead of what is wrong with the body
	{4, "\xc0\x01x", api.ErrBad, 3},
	{4, "\xc0\x12" + strings.Repeat("x", 18), api.ErrBad, 20}, // the greatest packet: its body is looked at
	{4, "\x30\x02\x00\x05", api.ErrBad, 4},
	{4, "\x30\x02\x00\x05abcde", api.ErrBad, 4}, // what follows does not belong to it
	{4, "\x30\x02\x00\x00", api.ErrTopic, 4},
	{4, "\x30\x03\x00\x01\xff", api.ErrText, 5},
	{4, "\x32\x05\x00\x01a\x00\x00", api.ErrArg, 7}, // an ID of 0
	{4, "\x40\x02\x00\x00", api.ErrArg, 4},
	{5, "\x30\x06\x00\x01a\x02\x01\x02", api.ErrProp, 8},
	{5, "\x30\x06\x00\x01a\x02\x23\x02", api.ErrBad, 8},
	{4, "\x20\x02\x02\x00", api.ErrFlags, 4},
	{5, "\x20\x00", api.ErrBad, 2},
}

// P15.2: the first error comes with the packets before it, as soon as the bytes tell it; what follows does not matter.
func TestSplitErrors(t *testing.T) {
	for _, c := range wrong {
		for told, front := range []string{"", "\xc0\x00", "\x40\x02\x00\x07\xd0\x00"} {
			l := []api.Packet{{Kind: 4, ID: 7}, {Kind: 13}}[:told]
			if told == 1 {
				l = []api.Packet{{Kind: 12}}
			}
			for _, after := range []string{"", "\xc0\x00", "\xc0\x00\xff", "\x00"} {
				expect(t, c.version, 20, front+c.s+after, result{l, len(front), c.e})
			}
			for end := range len(c.s) + 1 {
				want := result{l, len(front), c.e}
				if end < c.shows {
					want.e = api.OK
				}
				expect(t, c.version, 20, front+c.s[:end], want)
			}
		}
	}
}

// P15.2: the limit counts header and body together, and the header alone tells that a packet is too long.
func TestSplitLongest(t *testing.T) {
	for _, size := range []int{16, 17, 128, 129, 131, 132, 4096, 16_386, 16_388, 65_537, 1<<20 - 1, 1 << 20} {
		c := publication(t, size)
		whole := result{[]api.Packet{c.p}, size, api.OK}
		expect(t, 4, size, c.s, whole)
		expect(t, 4, size, c.s+c.s[:size-1], whole)
		expect(t, 4, size, c.s[:size-1], result{nil, 0, api.OK})
		expect(t, 4, 1<<20, c.s, whole)
		if size == 16 {
			continue // no limit is less
		}
		expect(t, 4, size-1, c.s, result{nil, 0, api.ErrLong})
		expect(t, 4, size-1, "\xd0\x00"+c.s+"\xd0\x00", result{[]api.Packet{{Kind: 13}}, 2, api.ErrLong})
		for end := range 6 {
			expect(t, 4, size-1, c.s[:end], meant(4, size-1, c.s[:end]))
		}
	}
	expect(t, 4, 1<<20, publication(t, 1<<20+1).s, result{nil, 0, api.ErrLong})
	expect(t, 4, 130, "\x30\x7f", result{nil, 0, api.OK}) // no packet has 130 bytes: 128 need another byte of length
	expect(t, 4, 130, "\x30\x80\x01", result{nil, 0, api.ErrLong})
}

// P15.2: all that one or two bytes may be, and what a few may be that begin in the same way.
func TestSplitShort(t *testing.T) {
	for _, version := range versions {
		for first := range 256 {
			for second := range 256 {
				s := string([]byte{byte(first), byte(second)})
				for _, rest := range []string{"", "\x00", "\x00\x01a", "\x00\x04MQTT\x04\x02\x00\x00\x00\x00", s} {
					for _, maxPacket := range []int{16, 18} {
						expect(t, version, maxPacket, s+rest, meant(version, maxPacket, s+rest))
					}
				}
			}
			expect(t, version, 16, string([]byte{byte(first)}), meant(version, 16, string([]byte{byte(first)})))
		}
	}
}

// P15.2: every byte of a packet between others changed to anything, with limits that some packets do not fit, too.
func TestSplitChanged(t *testing.T) {
	for _, version := range versions {
		for _, c := range samples(version) {
			for i := range c.s {
				for b := range 256 {
					s := "\xc0\x00" + c.s[:i] + string([]byte{byte(b)}) + c.s[i+1:] + "\xd0\x00\x40\x02\x00\x07"
					for _, maxPacket := range []int{16, 18, 1 << 20} {
						expect(t, version, maxPacket, s, meant(version, maxPacket, s))
					}
				}
			}
		}
	}
}

// P15.2: many packets.
func TestSplitMany(t *testing.T) {
	const many = 100_000
	expect(t, 4, 16, strings.Repeat("\xd0\x00", many)+"\xd0", result{slices.Repeat([]api.Packet{{Kind: 13}}, many), 2 * many, api.OK})
}

// T2: what is read is valid, fits, and has the same bytes.
func TestSplitWritten(t *testing.T) {
	for _, version := range versions {
		_, s, _ := series(version)
		p, at, _ := limits.Split(version, limited(18), s)
		back := ""
		for _, packet := range p {
			bytes, e := mqtt.Bytes(version, packet)
			if e != api.OK || !limits.Fits(version, limited(18), packet) {
				t.Errorf("%d: %v: %d", version, packet, e)
			}
			back += bytes
		}
		if back != s[:at] || at != len(s) {
			t.Errorf("%d: %x, not %x", version, back, s)
		}
	}
}

// spoil changes all lists of a packet, up to what they have room for.
func spoil(p api.Packet) {
	for i := range p.Codes[:cap(p.Codes)] {
		p.Codes[:cap(p.Codes)][i] = -1
	}
	for i := range p.Filters[:cap(p.Filters)] {
		p.Filters[:cap(p.Filters)][i] = api.Filter{Topic: "spoilt"}
	}
	for i := range p.Props[:cap(p.Props)] {
		p.Props[:cap(p.Props)][i] = api.Prop{ID: 99}
	}
}

// Rule 3: the lists of a result are new memory, and share none with one another.
func TestSplitIsNew(t *testing.T) {
	for _, version := range versions {
		want, s, _ := series(version)
		want, s = slices.Repeat(want, 2), s+s
		for i := range want {
			l, _, _ := limits.Split(version, most, s)
			spoil(l[i])
			for j := range l {
				if i != j && !head.Same(l[j], want[j]) {
					t.Errorf("%d: %d changes %d", version, i, j)
				}
			}
			clear(l[:cap(l)])
		}
		expect(t, version, 18, s, result{want, len(s), api.OK})
	}
}
