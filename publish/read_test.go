package publish_test

import (
	"slices"
	"strings"
	"testing"

	"polyglot/api"
	"polyglot/head"
	"polyglot/prop"
	"polyglot/publish"
	"polyglot/topic"
	"polyglot/ustring"
)

// goodFlags are those that a PUBLISH may have.
var goodFlags = []int{0, 1, 2, 3, 4, 5, 10, 11, 12, 13}

// meantRead is what Read is to return, by the words of the document.
func meantRead(version, flags int, s string) (api.Packet, api.Errno) {
	if version != 4 && version != 5 {
		return api.Packet{}, 2
	}
	if !slices.Contains(goodFlags, flags) {
		return api.Packet{}, 7
	}
	if len(s) < 2 || len(s)-2 < int(s[0])*256+int(s[1]) {
		return api.Packet{}, 3
	}
	end := 2 + int(s[0])*256 + int(s[1])
	p := api.Packet{Kind: 3, Dup: flags >= 8, QoS: flags % 8 / 2, Retain: flags%2 == 1, Topic: s[2:end]}
	if !ustring.Valid(p.Topic) {
		return api.Packet{}, 6
	}
	if p.QoS != 0 {
		if len(s)-end < 2 {
			return api.Packet{}, 3
		}
		p.ID = int(s[end])*256 + int(s[end+1])
		end += 2
	}
	if version == 5 {
		l, size, e := prop.Read(3, s[end:])
		if e != api.OK {
			return api.Packet{}, e
		}
		p.Props = l
		end += size
	}
	if p.QoS != 0 && p.ID == 0 {
		return api.Packet{}, 2
	}
	if _, aliased := prop.Get(p.Props, 35); !topic.Name(p.Topic) && (p.Topic != "" || !aliased) {
		return api.Packet{}, 10
	}
	p.Payload = s[end:]
	return p, 0
}

// read wants of Read what is meant, and of what is read that it is valid, has those flags, and has the bytes for its body.
func read(t *testing.T, version, flags int, s string) api.Errno {
	t.Helper()
	want, wantE := meantRead(version, flags, s)
	p, e := publish.Read(version, flags, s)
	if e != wantE || !head.Same(p, want) {
		t.Fatalf("Read(%d, %d, %.200x): %s %d, not %s %d", version, flags, s, show(p), e, show(want), wantE)
	}
	if e != api.OK {
		return e
	}
	if f, e := head.Flags(version, p); f != flags || e != api.OK {
		t.Fatalf("Read(%d, %d, %.200x): its flags are %d %d", version, flags, s, f, e)
	}
	if back, e := publish.Body(version, p); back != s || e != api.OK {
		t.Fatalf("Read(%d, %d, %.200x): its body is %.200x %d", version, flags, s, back, e)
	}
	return api.OK
}

func expectRead(t *testing.T, version, flags int, s string, want api.Errno) {
	t.Helper()
	if e := read(t, version, flags, s); e != want {
		t.Errorf("Read(%d, %d, %.200x): %d, not %d", version, flags, s, e, want)
	}
}

// bodies are good and bad, some of them for one version alone.
var bodies = []string{
	"", "\x00", "\x00\x00", "\x00\x01", "\x00\x01a", "\x00\x01a\x00", "\x00\x01a\x00\x00", "\x00\x01a\x00\x00\x00", "\x00\x01a\x00\x01", "\x00\x01a\x00\x01\x00",
	"\x00\x01a\x00\x01\x00p", "\x00\x01a\xff\xff\x02\x01\x01p", "\x00\x01a\x02\x01\x01p", "\x00\x01a\x02\x01\x02p", "\x00\x00\x03\x23\x00\x01p",
	"\x00\x00\x00\x01\x03\x23\x00\x01p", "\x00\x00\x00\x00\x03\x23\x00\x01p", "\x00\x01+", "\x00\x01+\x00\x01\x00", "\x00\x01\xff", "\x00\x01\x00\x00\x01\x00",
}

// P9.2: a version that does not exist comes first, flags that do not fit come next, whatever the bytes.
func TestReadVersionsAndFlags(t *testing.T) {
	for _, s := range append([]string{fullBody[4], fullBody[5]}, bodies...) {
		for _, n := range small(300) {
			for _, other := range []int{0, 1, 2, 6, 13, 15, -1} {
				if e := read(t, n, other, s); n != 4 && n != 5 && e != api.ErrArg {
					t.Errorf("version %d: %d", n, e)
				}
			}
			for _, version := range versions {
				if e := read(t, version, n, s); (e == api.ErrFlags) == slices.Contains(goodFlags, n) {
					t.Errorf("flags %d: %d", n, e)
				}
			}
		}
	}
}

// P9.2: the flags tell Dup, QoS and Retain.
func TestReadFlags(t *testing.T) {
	for _, flags := range goodFlags {
		p, e := publish.Read(5, flags, "\x00\x01a\x00\x01\x00"+"\x00")
		if e != api.OK || p.Kind != 3 || p.Dup != (flags&8 != 0) || p.QoS != flags>>1&3 || p.Retain != (flags&1 != 0) {
			t.Errorf("flags %d: %s %d", flags, show(p), e)
		}
	}
}

// packets returns packets of a version in all combinations of parts.
func packets(version int) []api.Packet {
	names, lists := []string{"a", "\u00e4/b", strings.Repeat("t", 300)}, [][]api.Prop{nil}
	if version == 5 {
		names = append(names, "")
		long := slices.Repeat([]api.Prop{{ID: 11, N: 128}, {ID: 38, Text: "k"}}, 30) // its length has two bytes
		lists = append(lists, full(5).Props, []api.Prop{{ID: 35, N: 65535}}, append(long, api.Prop{ID: 35, N: 256}))
	}
	var all []api.Packet
	for _, flags := range goodFlags {
		for _, name := range names {
			for _, l := range lists {
				for _, payload := range []string{"", "\x00", "p\xff"} {
					p := api.Packet{Kind: 3, Dup: flags&8 != 0, QoS: flags >> 1 & 3, Retain: flags&1 != 0, Topic: name, Payload: payload, Props: l}
					p.ID = p.QoS * 0x1234
					if name != "" || l != nil {
						all = append(all, p)
					}
				}
			}
		}
	}
	return all
}

// P9.3: the packet is read from its body; what is cut off ahead of the payload is missed, what is cut off or put behind is payload.
func TestReadOfBody(t *testing.T) {
	for _, version := range versions {
		for _, p := range packets(version) {
			s, e := publish.Body(version, p)
			flags, _ := head.Flags(version, p)
			got, readE := publish.Read(version, flags, s)
			if e != api.OK || readE != api.OK || !head.Same(got, p) {
				t.Fatalf("%d %s: %x %d; %s %d", version, show(p), s, e, show(got), readE)
			}
			for cut := range s {
				want := api.OK
				if cut < len(s)-len(p.Payload) {
					want = api.ErrShort
				}
				expectRead(t, version, flags, s[:cut], want)
			}
			if got, e := publish.Read(version, flags, s+"\x00more"); e != api.OK || got.Payload != p.Payload+"\x00more" {
				t.Fatalf("%s: %s %d", show(p), show(got), e)
			}
		}
	}
}

// P9.2 and P9.3: every byte of a body with every value, with all flags and both versions.
func TestReadChanged(t *testing.T) {
	for _, s := range append([]string{fullBody[4], fullBody[5]}, bodies...) {
		for at := range s {
			for b := range 256 {
				changed := s[:at] + string([]byte{byte(b)}) + s[at+1:]
				for flags := range 16 {
					read(t, 4, flags, changed)
					read(t, 5, flags, changed)
				}
			}
		}
	}
}

// P9.2: the errors by hand, and which of them comes first.
func TestReadErrors(t *testing.T) {
	for _, c := range []struct {
		version, flags int
		s              string
		want           api.Errno
	}{
		{3, 6, "", api.ErrArg},
		{4, 6, "", api.ErrFlags},
		{4, 8, "\x00\x01a", api.ErrFlags}, // Dup with QoS 0
		{4, 16, "\x00\x01a", api.ErrFlags},
		{5, -1, "\x00\x01a", api.ErrFlags},
		{4, 0, "", api.ErrShort},
		{4, 0, "\x00", api.ErrShort},
		{4, 0, "\x00\x02\xff", api.ErrShort},
		{4, 0, "\x00\x01\xff", api.ErrText},
		{4, 2, "\x00\x01\x00", api.ErrText}, // ahead of the ID
		{4, 2, "\x00\x01+", api.ErrShort},   // ahead of the name
		{4, 2, "\x00\x01+\x00", api.ErrShort},
		{4, 2, "\x00\x01+\x00\x00", api.ErrArg},
		{4, 2, "\x00\x01+\x00\x01", api.ErrTopic},
		{4, 2, "\x00\x01a\x00\x00", api.ErrArg},
		{4, 2, "\x00\x01a\x00\x01", api.OK},
		{4, 0, "\x00\x01a\x00\x00", api.OK},
		{4, 0, "\x00\x00", api.ErrTopic},
		{4, 0, "\x00\x00\x03\x23\x00\x01", api.ErrTopic}, // an alias is of MQTT 5
		{5, 2, "\x00\x01a\x00", api.ErrShort},
		{5, 2, "\x00\x01a\x00\x00", api.ErrShort}, // of the properties, ahead of the ID's value
		{5, 2, "\x00\x01a\x00\x00\x00", api.ErrArg},
		{5, 2, "\x00\x01+\x00\x00\x01\x05", api.ErrProp},
		{5, 0, "\x00\x01a", api.ErrShort},
		{5, 0, "\x00\x01a\x80", api.ErrShort},
		{5, 0, "\x00\x01a\x80\x00", api.ErrBad},
		{5, 0, "\x00\x01a\xff\xff\xff\xff", api.ErrBad},
		{5, 0, "\x00\x01a\x03\x01\x01", api.ErrShort},
		{5, 0, "\x00\x01a\x01\x01\x01", api.ErrBad},
		{5, 0, "\x00\x01a\x02\x01\x02", api.ErrProp},
		{5, 0, "\x00\x01a\x02\x17\x01", api.ErrProp}, // of CONNECT
		{5, 0, "\x00\x01a\x03\x23\x00\x00", api.ErrProp},
		{5, 0, "\x00\x01a\x06\x23\x00\x01\x23\x00\x01", api.ErrProp},
		{5, 0, "\x00\x01a\x04\x03\x00\x01\xff", api.ErrText},
		{5, 0, "\x00\x00\x00", api.ErrTopic},
		{5, 0, "\x00\x00\x02\x01\x01", api.ErrTopic},
		{5, 0, "\x00\x00\x03\x23\x00\x01", api.OK},
		{5, 0, "\x00\x01#\x03\x23\x00\x01", api.ErrTopic},
	} {
		expectRead(t, c.version, c.flags, c.s, c.want)
	}
}

// P9.2 and P9.3: topics and properties at their greatest.
func TestReadLong(t *testing.T) {
	p := full(5)
	p.Topic = strings.Repeat("x", most)
	p.Payload = strings.Repeat("\xff", 1<<20+1)
	p.Props = slices.Repeat([]api.Prop{{ID: 38, Text: p.Topic[:200], Value: p.Topic[:100]}}, 1000)
	s, e := publish.Body(5, p)
	if got, readE := publish.Read(5, 13, s); e != api.OK || readE != api.OK || !head.Same(got, p) {
		t.Errorf("%d %d", e, readE)
	}
	one := "\x26\x00\x00\x00\x00" // 5 bytes; 1,000 of them are 5,000, which are 88 27
	expectRead(t, 5, 0, "\x00\x01a\x88\x27"+strings.Repeat(one, 1000)+"payload", api.OK)
	expectRead(t, 5, 0, "\x00\x01a\x8d\x27"+strings.Repeat(one, 1001)+"payload", api.ErrLong)
}

// Rule 3: the properties of a packet that was read are new memory, and another reading is not affected.
func TestReadIsNew(t *testing.T) {
	p, _ := publish.Read(5, 13, fullBody[5])
	room := p.Props[:cap(p.Props)]
	for i := range room {
		room[i] = api.Prop{ID: 99}
	}
	if q, e := publish.Read(5, 13, fullBody[5]); e != api.OK || !head.Same(q, full(5)) {
		t.Errorf("%s %d", show(q), e)
	}
}
