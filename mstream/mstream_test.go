package mstream_test

import (
	"math"
	"testing"

	"polyglot/api"
	"polyglot/head"
	"polyglot/mqtt"
	"polyglot/mstream"
)

var versions = []int{4, 5}

// most are limits by the document's numbers, by hand.
var most = api.Limits{MaxPacket: 1_048_576, MaxDepth: 32}

// limited returns limits of so many bytes.
func limited(bytes int) api.Limits {
	return api.Limits{MaxPacket: bytes}
}

// packets returns packets of a version, each with its bytes, by hand: of every kind that is long enough to be cut in more than one way, with payloads and lists.
func packets(version int) []string {
	if version == 4 {
		return []string{
			"\x10\x0d\x00\x04MQTT\x04\x02\x00\x3c\x00\x01c",
			"\x20\x02\x01\x00",
			"\x30\x03\x00\x01a",
			"\x3d\x07\x00\x01a\x00\x0ahi",
			"\x40\x02\x00\x07",
			"\x62\x02\x00\x07",
			"\x82\x0c\x00\x01\x00\x03a/#\x02\x00\x01+\x00",
			"\x90\x04\x00\x01\x02\x80",
			"\xa2\x07\x00\x02\x00\x03a/#",
			"\xc0\x00",
			"\xd0\x00",
			"\xe0\x00",
		}
	}
	return []string{
		"\x10\x10\x00\x04MQTT\x05\x02\x00\x3c\x03\x21\x00\x0a\x00\x00",
		"\x20\x06\x01\x00\x03\x21\x00\x0a",
		"\x30\x06\x00\x00\x03\x23\x00\x01",
		"\x3b\x0f\x00\x01a\x00\x0a\x07\x26\x00\x01k\x00\x01vhi",
		"\x50\x08\x00\x07\x00\x04\x1f\x00\x01r",
		"\x82\x09\x00\x01\x00\x00\x03a/#\x2d",
		"\x90\x05\x00\x01\x00\x01\x87",
		"\xc0\x00",
		"\xe0\x01\x04",
		"\xf0\x06\x18\x04\x15\x00\x01m",
	}
}

// series returns the packets one after the other.
func series(version int) (s string) {
	for _, p := range packets(version) {
		s += p
	}
	return s
}

// state is all that a stream tells after some bytes.
type state struct {
	packets []api.Packet
	at      int
	kept    int
	need    int
	e       api.Errno
}

// meant returns the state after the bytes of s, by the words of the document, whatever the chunks.
func meant(version, maxPacket int, s string) (w state) {
	for {
		rest := s[w.at:]
		h, start, e := head.Read(version, rest)
		size := start + h.Length
		switch {
		case e == 3:
			w.kept, w.need = len(rest), 1
			return w
		case e != 0:
			w.e = e
			return w
		case size > maxPacket:
			w.e = 4
			return w
		case size > len(rest):
			w.kept, w.need = len(rest), size-len(rest)
			return w
		}
		p, _, e := mqtt.Read(version, rest[:size])
		if e != 0 {
			w.e = e
			return w
		}
		w.packets = append(w.packets, p)
		w.at += size
	}
}

func open(t *testing.T, version int, l api.Limits) *mstream.Stream {
	t.Helper()
	s, e := mstream.New(version, l)
	if s == nil || e != api.OK {
		t.Fatalf("New(%d, %v): %v %d", version, l, s, e)
	}
	return s
}

// same returns whether a list has the packets.
func same(l, want []api.Packet) bool {
	if len(l) != len(want) {
		return false
	}
	for i, p := range l {
		if !head.Same(p, want[i]) {
			return false
		}
	}
	return true
}

// holds wants of a stream what it tells without being fed.
func holds(t *testing.T, s *mstream.Stream, told int, w state) {
	t.Helper()
	if s.Err() != w.e || s.At() != w.at || s.Told() != told || s.Kept() != w.kept || s.Need() != w.need {
		t.Fatalf("error %d, at %d, told %d, kept %d, need %d; not %d, %d, %d, %d, %d",
			s.Err(), s.At(), s.Told(), s.Kept(), s.Need(), w.e, w.at, told, w.kept, w.need)
	}
}

// feed feeds a stream the chunks, and wants after each of them what is meant of all bytes so far.
func feed(t *testing.T, version, maxPacket int, chunks ...string) {
	t.Helper()
	s := open(t, version, limited(maxPacket))
	holds(t, s, 0, state{need: 1})
	fed, told := "", 0
	for _, chunk := range chunks {
		fed += chunk
		w := meant(version, maxPacket, fed)
		l, e := s.Feed(chunk)
		if !same(l, w.packets[told:]) || e != w.e {
			t.Fatalf("%d: %.100x of %.100x: %.400v %d, not %.400v %d", version, chunk, fed, l, e, w.packets[told:], w.e)
		}
		told = len(w.packets)
		holds(t, s, told, w)
		if w.kept >= maxPacket {
			t.Fatalf("%d: %d bytes are kept of %d", version, w.kept, maxPacket)
		}
	}
}

// bytewise returns a chunk for each byte.
func bytewise(s string) []string {
	chunks := make([]string, len(s))
	for i := range s {
		chunks[i] = s[i : i+1]
	}
	return chunks
}

// P14.1: versions.
func TestNewVersions(t *testing.T) {
	for _, version := range []int{math.MinInt, -5, -4, -1, 0, 1, 2, 3, 4, 5, 6, 7, 255, 256 + 4, 1<<16 + 5, 1<<32 + 4, math.MaxInt} {
		s, e := mstream.New(version, most)
		is := version == 4 || version == 5
		if (s != nil) != is || (e == api.OK) != is || e != api.OK && e != api.ErrArg {
			t.Errorf("New(%d, most): %v %d", version, s, e)
		}
	}
}

// P14.1: limits, at their edges.
func TestNewLimits(t *testing.T) {
	bytes := []int{math.MinInt, -16, -1, 0, 1, 15, 16, 17, 4096, 1<<20 - 1, 1 << 20, 1<<20 + 1, 1<<32 + 16, math.MaxInt}
	depths := []int{math.MinInt, -1, 0, 1, 16, 31, 32, 33, 1 << 32, math.MaxInt}
	for _, version := range []int{3, 4, 5} {
		for _, maxPacket := range bytes {
			for _, depth := range depths {
				is := version != 3 && maxPacket >= 16 && maxPacket <= 1<<20 && depth >= 0 && depth <= 32
				s, e := mstream.New(version, api.Limits{MaxPacket: maxPacket, MaxDepth: depth})
				if (s != nil) != is || (e == api.OK) != is || e != api.OK && e != api.ErrArg {
					t.Errorf("New(%d, %d %d): %v %d", version, maxPacket, depth, s, e)
				}
			}
		}
	}
}

// P14.1: a new stream has nothing, and an empty chunk adds nothing.
func TestEmpty(t *testing.T) {
	for _, version := range versions {
		feed(t, version, 16)
		feed(t, version, 16, "", "")
		feed(t, version, 16, "", "\xc0", "", "", "\x00", "")
		feed(t, version, 16, "", "\x30\x05\x00", "", "", "\x01abc", "", "\x00", "", "")
	}
}

// P14.1: streams that New did not return tell nothing, and a copy does not touch its original.
func TestInvalid(t *testing.T) {
	good := open(t, 4, most)
	good.Feed("\xc0\x00\xc0")
	copied := *good
	for name, s := range map[string]*mstream.Stream{"nil": nil, "zero": {}, "copy": &copied} {
		for _, chunk := range []string{"", "\x00", "\x00\xc0\x00", "\xff"} {
			if l, e := s.Feed(chunk); l != nil || e != api.ErrNil {
				t.Errorf("%s: Feed(%x): %v %d", name, chunk, l, e)
			}
		}
		if s.Err() != api.ErrNil || s.At() != 0 || s.Kept() != 0 || s.Told() != 0 || s.Need() != 0 {
			t.Errorf("%s: %d %d %d %d %d", name, s.Err(), s.At(), s.Kept(), s.Told(), s.Need())
		}
	}
	holds(t, good, 1, state{at: 2, kept: 1, need: 1})
	if l, e := good.Feed("\x00"); len(l) != 1 || e != api.OK {
		t.Error(l, e)
	}
}

// P14.1: the chapter's example.
func TestExample(t *testing.T) {
	for _, version := range versions {
		s := open(t, version, most)
		for i, want := range [][]api.Packet{nil, {{Kind: 12}}, {{Kind: 13}}} {
			chunk := []string{"\xc0", "\x00\xd0", "\x00"}[i]
			if l, e := s.Feed(chunk); !same(l, want) || e != api.OK {
				t.Errorf("%x: %v %d", chunk, l, e)
			}
		}
		holds(t, s, 2, state{at: 4, need: 1})
	}
}

// P14.2: what a stream tells, byte by byte, by hand.
func TestStates(t *testing.T) {
	s := open(t, 4, limited(200))
	payload := string(make([]byte, 125))
	for _, c := range []struct {
		chunk string
		told  int
		w     state
	}{
		{"\x30", 0, state{kept: 1, need: 1}},
		{"\x05", 0, state{kept: 2, need: 5}},
		{"\x00", 0, state{kept: 3, need: 4}},
		{"\x01ab", 0, state{kept: 6, need: 1}},
		{"c", 1, state{at: 7, need: 1}},
		{"\xc0\x00\xd0", 2, state{at: 9, kept: 1, need: 1}},
		{"", 2, state{at: 9, kept: 1, need: 1}},
		{"\x00\x30\x80", 3, state{at: 11, kept: 2, need: 1}}, // a length of which more is to come
		{"\x01", 3, state{at: 11, kept: 3, need: 128}},
		{"\x00\x01a", 3, state{at: 11, kept: 6, need: 125}},
		{payload[1:], 3, state{at: 11, kept: 130, need: 1}},
		{payload[:1] + "\x40\x02\x00", 4, state{at: 142, kept: 3, need: 1}},
		{"\x01\x40\x02\x00\x00\xc0\x00", 5, state{at: 146, e: api.ErrArg}}, // an ID of 0
		{"\xc0\x00", 5, state{at: 146, e: api.ErrArg}},
	} {
		before := s.Told()
		l, e := s.Feed(c.chunk)
		if len(l) != c.told-before || e != c.w.e {
			t.Errorf("%x: %v %d", c.chunk, l, e)
		}
		holds(t, s, c.told, c.w)
	}
}

// P14.1: the packets themselves, and their bytes, by the layer below.
func TestPackets(t *testing.T) {
	for _, version := range versions {
		s := open(t, version, most)
		for _, bytes := range packets(version) {
			l, e := s.Feed(bytes)
			if len(l) != 1 || e != api.OK {
				t.Fatalf("%d: Feed(%x): %v %d", version, bytes, l, e)
			}
			if back, e := mqtt.Bytes(version, l[0]); back != bytes || e != api.OK {
				t.Errorf("%d: Feed(%x): %v, whose bytes are %x", version, bytes, l[0], back)
			}
		}
	}
	s := open(t, 4, most)
	want := []api.Packet{{Kind: 3, Topic: "a", Payload: "hi", QoS: 2, ID: 10, Dup: true, Retain: true}, {Kind: 4, ID: 7}}
	if l, e := s.Feed("\x3d\x07\x00\x01a\x00\x0ahi\x40\x02\x00\x07\x62"); !same(l, want) || e != api.OK {
		t.Error(l, e)
	}
}
