package mqtt_test

import (
	"slices"
	"strings"
	"testing"

	"polyglot/ack"
	"polyglot/api"
	"polyglot/connect"
	"polyglot/control"
	"polyglot/head"
	"polyglot/mqtt"
	"polyglot/publish"
	"polyglot/subscribe"
)

// flagsFit returns whether a kind may have these flags, by the document.
func flagsFit(kind, flags int) bool {
	switch kind {
	case 3:
		return slices.Contains([]int{0, 1, 2, 3, 4, 5, 10, 11, 12, 13}, flags)
	case 6, 8, 10:
		return flags == 2
	}
	return flags == 0
}

// meantHead returns the kind, the flags, where the body begins and where it ends, by the words of the document.
func meantHead(version int, s string) (kind, flags, start, end int, e api.Errno) {
	if last(version) == 0 {
		return 0, 0, 0, 0, 2
	}
	if s == "" {
		return 0, 0, 0, 0, 3
	}
	kind, flags = int(s[0]>>4), int(s[0]&15)
	if kind == 0 || kind > last(version) {
		return 0, 0, 0, 0, 8
	}
	if !flagsFit(kind, flags) {
		return 0, 0, 0, 0, 7
	}
	length, scale := 0, 1
	for start = 1; start < 5; start++ {
		if start == len(s) {
			return 0, 0, 0, 0, 3
		}
		b := int(s[start])
		length += b % 128 * scale
		scale *= 128
		if b == 0 && start > 1 {
			return 0, 0, 0, 0, 5
		}
		if b < 128 {
			return kind, flags, start + 1, start + 1 + length, 0
		}
	}
	return 0, 0, 0, 0, 5
}

// meantRead is what Read is to return.
func meantRead(version int, s string) (p api.Packet, size int, e api.Errno) {
	kind, flags, start, end, e := meantHead(version, s)
	if e != 0 {
		return api.Packet{}, 0, e
	}
	if end > len(s) {
		return api.Packet{}, 0, 3
	}
	body := s[start:end]
	switch kind {
	case 1, 2:
		p, e = connect.Read(version, kind, body)
	case 3:
		p, e = publish.Read(version, flags, body)
	case 4, 5, 6, 7:
		p, e = ack.Read(version, kind, body)
	case 8, 9, 10, 11:
		p, e = subscribe.Read(version, kind, body)
	default:
		p, e = control.Read(version, kind, body)
	}
	if e == 3 {
		e = 5
	}
	if e != 0 {
		return api.Packet{}, 0, e
	}
	return p, end, 0
}

// read wants of Read what is meant, and of what is read that it is valid, and has these bytes.
func read(t *testing.T, version int, s string) api.Errno {
	t.Helper()
	want, wantSize, wantE := meantRead(version, s)
	p, size, e := mqtt.Read(version, s)
	if !head.Same(p, want) || size != wantSize || e != wantE {
		t.Fatalf("Read(%d, %.200x): %.400v %d %d, not %.400v %d %d", version, s, p, size, e, want, wantSize, wantE)
	}
	if e != api.OK {
		return e
	}
	if back, e := mqtt.Bytes(version, p); back != s[:size] || e != api.OK {
		t.Fatalf("Read(%d, %.200x): its bytes are %.200x %d", version, s, back, e)
	}
	return api.OK
}

func expectRead(t *testing.T, version int, s string, want api.Errno) {
	t.Helper()
	if e := read(t, version, s); e != want {
		t.Errorf("Read(%d, %.200x): %d, not %d", version, s, e, want)
	}
}

// P13.2: the packets themselves, by hand, with anything behind them.
func TestRead(t *testing.T) {
	for _, version := range versions {
		for _, c := range samples(version) {
			for _, rest := range []string{"", "\x00", "\xff", "\xc0\x00", "what follows"} {
				p, n, e := mqtt.Read(version, c.s+rest)
				if !head.Same(p, c.p) || n != len(c.s) || e != api.OK {
					t.Errorf("Read(%d, %x): %v %d %d, not %v", version, c.s+rest, p, n, e, c.p)
				}
			}
		}
	}
}

// P13.2 and P13.4: what ends within a packet is short, wherever it ends, so that no packet begins with another one.
func TestReadCut(t *testing.T) {
	for _, version := range versions {
		for _, c := range samples(version) {
			for end := range c.s {
				expectRead(t, version, c.s[:end], api.ErrShort)
			}
		}
	}
}

// P13.2: what is not there is asked for ahead of what is wrong with the body that is.
func TestReadShortAndBad(t *testing.T) {
	for _, c := range []struct {
		version int
		s       string
	}{
		{4, "\x10\x0c\xff\xff\xff\xff"},
		{4, "\x20\x02\xff"},
		{4, "\x30\x03\x00\x00"},
		{4, "\x40\x03\x00\x00"},
		{4, "\x82\x05\x00\x00"},
		{4, "\xc0\x01"},
		{5, "\xe0\x03\x00\x00"},
		{5, "\xf0\xff\xff\xff\x7f\xff"},
	} {
		expectRead(t, c.version, c.s, api.ErrShort)
	}
}

// P13.2: a version that does not exist comes ahead of everything.
func TestReadVersions(t *testing.T) {
	for _, version := range numbers() {
		if version == 4 || version == 5 {
			continue
		}
		for _, s := range []string{"", "\x00", "\xc0", "\xc0\x00", "\xc1\x00", "\x10\xff\xff\xff\xff"} {
			expectRead(t, version, s, api.ErrArg)
			if l, n, e := mqtt.All(version, s); len(l) != 0 || n != 0 || e != api.ErrArg {
				t.Errorf("All(%d, %x): %v %d %d", version, s, l, n, e)
			}
		}
	}
}

// P13.2: every first byte, with every length that is not as it should be, and with short bodies.
func TestReadHeads(t *testing.T) {
	rests := []string{"", "\x00", "\x80", "\xff\xff\xff", "\x80\x00", "\x81\x80\x00", "\xff\xff\xff\xff", "\xff\xff\xff\xff\x01", "\x01", "\x01\x00", "\x01\x04", "\x02\x00\x01", "\x02\x00\x00", "\x82\x00\x00\x01", "\x03\x00\x01a"}
	for _, version := range versions {
		for first := range 256 {
			for _, rest := range rests {
				read(t, version, string([]byte{byte(first)})+rest)
			}
		}
	}
}

// P13.2: the errors by hand, and which of them comes first.
func TestReadErrors(t *testing.T) {
	for _, c := range []struct {
		version int
		s       string
		want    api.Errno
	}{
		{4, "", api.ErrShort},
		{4, "\x00", api.ErrKind},
		{4, "\xf0\x00", api.ErrKind}, // only MQTT 5 has AUTH
		{4, "\xff\xff\xff\xff\xff", api.ErrKind},
		{5, "\xff\xff\xff\xff\xff", api.ErrFlags},
		{5, "\xf0\xff\xff\xff\xff", api.ErrBad},
		{4, "\xc1", api.ErrFlags},
		{4, "\x36\x00", api.ErrFlags}, // QoS 3
		{4, "\x38\x00", api.ErrFlags}, // again, with QoS 0
		{4, "\x60\x02\x00\x01", api.ErrFlags},
		{4, "\xc0\x80\x00", api.ErrBad}, // a length longer than necessary
		{4, "\xc0\x01x", api.ErrBad},
		{4, "\x30\x02\x00", api.ErrShort},
		{4, "\x30\x02\x00\x05", api.ErrBad}, // the topic ends beyond the body
		{4, "\x30\x02\x00\x05abcde", api.ErrBad},
		{4, "\x30\x00", api.ErrBad},
		{4, "\x32\x04\x00\x01a\x00", api.ErrBad}, // half an ID
		{4, "\x32\x05\x00\x01a\x00\x00", api.ErrArg},
		{4, "\x30\x02\x00\x00", api.ErrTopic},
		{4, "\x30\x03\x00\x01\xff", api.ErrText},
		{5, "\x30\x03\x00\x01a", api.ErrBad},         // no properties
		{5, "\x30\x05\x00\x01a\x05\x01", api.ErrBad}, // properties beyond the body
		{5, "\x30\x06\x00\x01a\x02\x01\x02", api.ErrProp},
		{4, "\x10\x00", api.ErrBad},
		{4, "\x10\x06\x00\x04MQTT", api.ErrBad},
		{4, "\x10\x0c\x00\x04MQTT\x04\x03\x00\x00\x00\x00", api.ErrFlags},
		{4, "\x10\x0d\x00\x04MQTT\x04\x02\x00\x00\x00\x00\x00", api.ErrBad}, // more than a CONNECT
		{4, "\x10\x0c\x00\x04MQTT\x04\x00\x00\x00\x00\x00", api.ErrArg},
		{4, "\x10\x0c\x00\x04MQTT\x05\x02\x00\x00\x00\x00", api.ErrBad}, // the other version
		{4, "\x20\x01\x00", api.ErrBad},
		{4, "\x20\x02\x02\x00", api.ErrFlags},
		{4, "\x20\x02\x00\x06", api.ErrArg},
		{5, "\x20\x02\x00\x00", api.ErrBad}, // no properties
		{4, "\x40\x01\x00", api.ErrBad},
		{4, "\x40\x02\x00\x00", api.ErrArg},
		{4, "\x40\x03\x00\x01\x00", api.ErrBad},
		{5, "\x40\x04\x00\x01\x10\x80", api.ErrBad}, // properties without an end
		{5, "\x50\x03\x00\x01\x00", api.ErrBad},     // longer than necessary
		{5, "\x62\x03\x00\x01\x10", api.ErrArg},
		{4, "\x82\x02\x00\x01", api.ErrArg}, // no filter
		{4, "\x82\x01\x00", api.ErrBad},
		{4, "\x82\x05\x00\x01\x00\x01a", api.ErrBad}, // no options
		{4, "\x82\x06\x00\x01\x00\x01a\x04", api.ErrFlags},
		{4, "\x82\x06\x00\x01\x00\x01a\x03", api.ErrArg},
		{4, "\x90\x03\x00\x01\x03", api.ErrArg},
		{4, "\xa2\x05\x00\x01\x00\x02a", api.ErrBad},
		{4, "\xa2\x05\x00\x01\x00\x01\xff", api.ErrText},
		{4, "\xb0\x03\x00\x01\x00", api.ErrArg},
		{5, "\xb0\x02\x00\x01", api.ErrBad},
		{5, "\xe0\x02\x04\x80", api.ErrBad}, // properties without an end
		{5, "\xe0\x06\x04\x04\x1f\x00\x02r", api.ErrBad},
		{5, "\xf0\x01\x04", api.ErrArg},
	} {
		expectRead(t, c.version, c.s, c.want)
		if c.want != api.ErrShort {
			expectRead(t, c.version, c.s+"\xc0\x00", c.want)
		}
	}
}

// P13.2: no body is read beyond its end, whatever follows: an ErrShort of a chapter never comes out.
func TestReadShortBodies(t *testing.T) {
	for _, version := range versions {
		for _, c := range samples(version) {
			start := len(c.s) - len(bodyOf(t, version, c.p))
			body := c.s[start:]
			for length := range len(body) {
				s := c.s[:1] + variable(length) + body
				if e := read(t, version, s); e == api.ErrShort {
					t.Errorf("Read(%d, %x): %d", version, s, e)
				}
			}
		}
	}
}

func bodyOf(t *testing.T, version int, p api.Packet) string {
	t.Helper()
	s, e := chapterOf(version, p)
	if e != api.OK {
		t.Fatal(e)
	}
	return s
}

// P13.2 and P13.4: every byte of a packet with every value, in both versions.
func TestReadChanged(t *testing.T) {
	for _, version := range versions {
		for _, c := range samples(version) {
			if len(c.s) > 100 {
				continue
			}
			for at := range len(c.s) {
				for b := range 256 {
					changed := c.s[:at] + string([]byte{byte(b)}) + c.s[at+1:]
					read(t, 4, changed)
					read(t, 5, changed)
					read(t, version, changed+"\x00\x00\x00")
				}
			}
		}
	}
}

// P13.4: what one version wrote, read as another kind and as the other version.
func TestReadOtherKinds(t *testing.T) {
	for _, version := range versions {
		for _, c := range samples(version) {
			for first := range 256 {
				s := string([]byte{byte(first)}) + c.s[1:]
				read(t, 4, s)
				read(t, 5, s)
			}
		}
	}
}

// P13.4: no packet begins with another one.
func TestNoPrefix(t *testing.T) {
	for _, version := range versions {
		for i, a := range samples(version) {
			for j, b := range samples(version) {
				if i != j && strings.HasPrefix(a.s, b.s) {
					t.Errorf("%d: %x begins with %x", version, a.s, b.s)
				}
			}
		}
	}
}

// all wants of All the packets, their bytes and the error.
func all(t *testing.T, version int, s string, want []api.Packet, size int, wantE api.Errno) {
	t.Helper()
	l, n, e := mqtt.All(version, s)
	if !slices.EqualFunc(l, want, head.Same) || n != size || e != wantE {
		t.Fatalf("All(%d, %.200x): %.400v %d %d, not %.400v %d %d", version, s, l, n, e, want, size, wantE)
	}
}

// series returns packets of a version one after the other, their bytes, and where each of them ends.
func series(version int) (l []api.Packet, s string, ends []int) {
	for _, c := range samples(version) {
		l = append(l, c.p)
		s += c.s
		ends = append(ends, len(s))
	}
	return l, s, ends
}

// P13.3: packets one after the other, whole, and cut at every place: what is not complete is left.
func TestAll(t *testing.T) {
	for _, version := range versions {
		l, s, ends := series(version)
		for end := range len(s) + 1 {
			complete, size := 0, 0
			for complete < len(ends) && ends[complete] <= end {
				size = ends[complete]
				complete++
			}
			all(t, version, s[:end], l[:complete], size, api.OK)
		}
		all(t, version, s+s, append(l[:len(l):len(l)], l...), 2*len(s), api.OK)
	}
	for _, version := range versions {
		all(t, version, "", nil, 0, api.OK)
	}
}

// P13.3: any other error comes with the packets before it, and with their bytes; nothing after it counts.
func TestAllErrors(t *testing.T) {
	for s, want := range map[string]api.Errno{
		"\x00":                 api.ErrKind,
		"\xc1":                 api.ErrFlags,
		"\xc0\x80\x00":         api.ErrBad,
		"\xc0\xff\xff\xff\xff": api.ErrBad,
		"\xc0\x01x":            api.ErrBad,
		"\x20\x00":             api.ErrBad, // the body is short, the bytes are not
		"\x40\x02\x00\x00":     api.ErrArg,
	} {
		for _, version := range versions {
			l, front, _ := series(version)
			all(t, version, s, nil, 0, want)
			all(t, version, front+s, l, len(front), want)
			all(t, version, front+s+front, l, len(front), want)
			all(t, version, "\xc0\x00"+s+"\xc0\x00", []api.Packet{{Kind: 12}}, 2, want)
		}
	}
	all(t, 4, "\xf0\x00", nil, 0, api.ErrKind)
	all(t, 5, "\xf0\x00", []api.Packet{{Kind: 15}}, 2, api.OK)
}

// P13.3: the same packets as by Read, one by one, also of bytes that were changed.
func TestAllIsRead(t *testing.T) {
	for _, version := range versions {
		_, s, _ := series(version)
		for at := range len(s) {
			for _, b := range []byte{0, 1, 2, 0x10, 0x32, 0x7f, 0x80, 0xc0, 0xff} {
				changed := s[:at] + string([]byte{b}) + s[at+1:]
				var l []api.Packet
				size := 0
				p, n, e := meantRead(version, changed)
				for e == api.OK {
					l = append(l, p)
					size += n
					p, n, e = meantRead(version, changed[size:])
				}
				if e == api.ErrShort {
					e = api.OK
				}
				all(t, version, changed, l, size, e)
			}
		}
	}
}

// P13.3: many packets.
func TestAllMany(t *testing.T) {
	const many = 100_000
	all(t, 4, strings.Repeat("\xd0\x00", many)+"\xd0", slices.Repeat([]api.Packet{{Kind: 13}}, many), 2*many, api.OK)
}

// spoil changes all lists of a packet, up to what they have room for.
func spoil(p api.Packet) {
	for i := range p.Codes[:cap(p.Codes)] {
		p.Codes[:cap(p.Codes)][i] = -1
	}
	for i := range p.Filters[:cap(p.Filters)] {
		p.Filters[:cap(p.Filters)][i] = api.Filter{Topic: "spoilt"}
	}
	for _, l := range [][]api.Prop{p.Props, p.Will.Props} {
		for i := range l[:cap(l)] {
			l[:cap(l)][i] = api.Prop{ID: 99}
		}
	}
}

// Rule 3: the lists of a result are new memory, and share none with one another.
func TestReadIsNew(t *testing.T) {
	for _, version := range versions {
		want, s, _ := series(version)
		want, s = slices.Repeat(want, 2), s+s
		for i := range want {
			l, _, _ := mqtt.All(version, s)
			spoil(l[i])
			for j := range l {
				if i != j && !head.Same(l[j], want[j]) {
					t.Errorf("%d: %d changes %d", version, i, j)
				}
			}
		}
		all(t, version, s, want, len(s), api.OK)
		for _, c := range samples(version) {
			p, _, _ := mqtt.Read(version, c.s)
			spoil(api.Packet{Props: p.Will.Props})
			if len(p.Will.Props) > 0 && !slices.Equal(p.Props, c.p.Props) {
				t.Errorf("%d: %v", version, p)
			}
			spoil(p)
			expectRead(t, version, c.s, api.OK)
		}
	}
}
