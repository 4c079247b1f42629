package limits_test

import (
	"math"
	"slices"
	"strings"
	"testing"

	"polyglot/api"
	"polyglot/limits"
	"polyglot/mqtt"
	"polyglot/mstream"
)

var versions = []int{4, 5}

// others are no versions; some would be if they were cut, or their sign lost.
var others = []int{math.MinInt, -5, -4, -1, 0, 1, 2, 3, 6, 7, 255, 1<<8 + 4, 1<<16 + 5, 1<<32 + 4, math.MaxInt}

// most are limits by the document's numbers, by hand.
var most = api.Limits{MaxPacket: 1_048_576, MaxDepth: 32}

// limited returns limits of so many bytes.
func limited(bytes int) api.Limits {
	return api.Limits{MaxPacket: bytes}
}

// verdict is limits, and whether they are valid.
type verdict struct {
	l  api.Limits
	is bool
}

// verdicts returns limits at the edges and beyond them, by the words of the document.
func verdicts() (all []verdict) {
	bytes := []int{math.MinInt, -1 << 32, -16, -1, 0, 1, 14, 15, 16, 17, 18, 100, 4096, 1<<20 - 1, 1 << 20, 1<<20 + 1, 1 << 21, 1<<31 - 1, 1<<32 + 16, 1<<62 + 16, math.MaxInt}
	depths := []int{math.MinInt, -1 << 32, -32, -1, 0, 1, 2, 16, 31, 32, 33, 64, 1 << 8, 1 << 16, 1 << 32, 1 << 62, math.MaxInt}
	for _, maxPacket := range bytes {
		for _, depth := range depths {
			is := maxPacket >= 16 && maxPacket <= 1_048_576 && depth >= 0 && depth <= 32
			all = append(all, verdict{api.Limits{MaxPacket: maxPacket, MaxDepth: depth}, is})
		}
	}
	return all
}

// P15.1: limits, at their edges.
func TestCheck(t *testing.T) {
	for _, v := range verdicts() {
		e := limits.Check(v.l)
		if e != api.OK && e != api.ErrArg || (e == api.OK) != v.is {
			t.Errorf("Check(%v): %d", v.l, e)
		}
		for _, version := range versions {
			if _, of := mstream.New(version, v.l); e != of {
				t.Errorf("Check(%v): %d; of a stream %d", v.l, e, of)
			}
		}
	}
}

// P15.1: the greatest limits are valid, and none beyond them are.
func TestGreatest(t *testing.T) {
	if limits.Greatest() != most {
		t.Errorf("Greatest(): %v", limits.Greatest())
	}
	for _, c := range []struct {
		bytes, depth int
		want         api.Errno
	}{{0, 0, api.OK}, {1, 0, api.ErrArg}, {0, 1, api.ErrArg}, {1, 1, api.ErrArg}} {
		l := limits.Greatest()
		l.MaxPacket += c.bytes
		l.MaxDepth += c.depth
		if e := limits.Check(l); e != c.want {
			t.Errorf("Check(%v): %d", l, e)
		}
	}
}

// sample is a packet with its bytes, by hand.
type sample struct {
	s string
	p api.Packet
}

// samples returns packets of each kind that the version has.
func samples(version int) []sample {
	if version == 4 {
		return samples311()
	}
	return samples5()
}

func samples311() []sample {
	filters := []api.Filter{{Topic: "a/#", QoS: 2}, {Topic: "+"}}
	return []sample{
		{"\x10\x0d\x00\x04MQTT\x04\x02\x00\x3c\x00\x01c", api.Packet{Kind: 1, Clean: true, KeepAlive: 60, Client: "c"}},
		{"\x20\x02\x01\x00", api.Packet{Kind: 2, Session: true}},
		{"\x30\x03\x00\x01a", api.Packet{Kind: 3, Topic: "a"}},
		{"\x3d\x0e\x00\x03a/b\x00\x0a1234567", api.Packet{Kind: 3, Dup: true, QoS: 2, Retain: true, ID: 10, Topic: "a/b", Payload: "1234567"}},
		{"\x30\x0f\x00\x01a123456789abc", api.Packet{Kind: 3, Topic: "a", Payload: "123456789abc"}},
		{"\x40\x02\x00\x07", api.Packet{Kind: 4, ID: 7}},
		{"\x50\x02\x00\x08", api.Packet{Kind: 5, ID: 8}},
		{"\x62\x02\x01\x00", api.Packet{Kind: 6, ID: 256}},
		{"\x70\x02\xff\xff", api.Packet{Kind: 7, ID: 65535}},
		{"\x82\x0c\x00\x01\x00\x03a/#\x02\x00\x01+\x00", api.Packet{Kind: 8, ID: 1, Filters: filters}},
		{"\x90\x04\x00\x01\x02\x80", api.Packet{Kind: 9, ID: 1, Codes: []int{2, 128}}},
		{"\xa2\x07\x00\x02\x00\x03a/#", api.Packet{Kind: 10, ID: 2, Filters: []api.Filter{{Topic: "a/#"}}}},
		{"\xb0\x02\x00\x02", api.Packet{Kind: 11, ID: 2}},
		{"\xc0\x00", api.Packet{Kind: 12}},
		{"\xd0\x00", api.Packet{Kind: 13}},
		{"\xe0\x00", api.Packet{Kind: 14}},
	}
}

func samples5() []sample {
	reason := []api.Prop{{ID: 31, Text: "r"}}
	options := []api.Filter{{Topic: "a/#", QoS: 1, NoLocal: true, AsPublished: true, Handling: 2}}
	return []sample{
		{"\x10\x10\x00\x04MQTT\x05\x02\x00\x3c\x03\x21\x00\x0a\x00\x00", api.Packet{Kind: 1, Clean: true, KeepAlive: 60, Props: []api.Prop{{ID: 33, N: 10}}}},
		{"\x20\x03\x00\x86\x00", api.Packet{Kind: 2, Code: 134}},
		{"\x30\x06\x00\x00\x03\x23\x00\x01", api.Packet{Kind: 3, Props: []api.Prop{{ID: 35, N: 1}}}},
		{"\x3b\x0f\x00\x01a\x00\x0a\x07\x26\x00\x01k\x00\x01vhi", api.Packet{Kind: 3, Dup: true, QoS: 1, Retain: true, ID: 10, Topic: "a", Payload: "hi", Props: []api.Prop{{ID: 38, Text: "k", Value: "v"}}}},
		{"\x40\x03\x00\x07\x10", api.Packet{Kind: 4, ID: 7, Code: 16}},
		{"\x50\x08\x00\x07\x00\x04\x1f\x00\x01r", api.Packet{Kind: 5, ID: 7, Props: reason}},
		{"\x62\x03\x00\x07\x92", api.Packet{Kind: 6, ID: 7, Code: 146}},
		{"\x70\x02\x00\x07", api.Packet{Kind: 7, ID: 7}},
		{"\x82\x0b\x00\x01\x02\x0b\x07\x00\x03a/#\x2d", api.Packet{Kind: 8, ID: 1, Filters: options, Props: []api.Prop{{ID: 11, N: 7}}}},
		{"\x90\x05\x00\x01\x00\x01\x87", api.Packet{Kind: 9, ID: 1, Codes: []int{1, 135}}},
		{"\xa2\x08\x00\x02\x00\x00\x03a/#", api.Packet{Kind: 10, ID: 2, Filters: []api.Filter{{Topic: "a/#"}}}},
		{"\xb0\x05\x00\x02\x00\x00\x11", api.Packet{Kind: 11, ID: 2, Codes: []int{0, 17}}},
		{"\xc0\x00", api.Packet{Kind: 12}},
		{"\xd0\x00", api.Packet{Kind: 13}},
		{"\xe0\x06\x00\x04\x1f\x00\x01r", api.Packet{Kind: 14, Props: reason}},
		{"\xf0\x06\x18\x04\x15\x00\x01m", api.Packet{Kind: 15, Code: 24, Props: []api.Prop{{ID: 21, Text: "m"}}}},
	}
}

// publication returns a PUBLISH of 3.1.1 of so many bytes.
func publication(t *testing.T, size int) sample {
	t.Helper()
	for header := 2; header <= 5; header++ {
		p := api.Packet{Kind: 3, Topic: "a", Payload: strings.Repeat("p", size-header-3)}
		if s, e := mqtt.Bytes(4, p); len(s) == size && e == api.OK {
			return sample{s, p}
		}
	}
	t.Fatalf("no PUBLISH has %d bytes", size)
	return sample{}
}

// P15.1: a packet fits from its own number of bytes on.
func TestFits(t *testing.T) {
	for _, version := range versions {
		for _, c := range samples(version) {
			for maxPacket := 16; maxPacket < 40; maxPacket++ {
				if is := limits.Fits(version, limited(maxPacket), c.p); is != (len(c.s) <= maxPacket) {
					t.Errorf("Fits(%d, %d, %v): %v, with %d bytes", version, maxPacket, c.p, is, len(c.s))
				}
			}
			if !limits.Fits(version, most, c.p) {
				t.Errorf("Fits(%d, most, %v)", version, c.p)
			}
		}
	}
}

// P15.1: the header counts, however many bytes it has.
func TestFitsLong(t *testing.T) {
	for _, size := range []int{16, 17, 100, 129, 131, 132, 4096, 16_386, 16_388, 65_536, 1<<20 - 1, 1 << 20, 1<<20 + 1, 2_097_155, 2_097_157} {
		p := publication(t, size).p
		for _, maxPacket := range []int{16, size - 5, size - 4, size - 3, size - 2, size - 1, size, size + 1, 1 << 20} {
			is := maxPacket >= size && maxPacket >= 16 && maxPacket <= 1<<20
			if limits.Fits(4, limited(maxPacket), p) != is {
				t.Errorf("Fits(4, %d, a packet of %d bytes): not %v", maxPacket, size, is)
			}
		}
	}
}

// P15.1: nothing fits limits that are not valid.
func TestFitsLimits(t *testing.T) {
	for _, v := range verdicts() {
		for _, version := range versions {
			for _, kind := range []int{12, 13} {
				if limits.Fits(version, v.l, api.Packet{Kind: kind}) != v.is {
					t.Errorf("Fits(%d, %v, kind %d): not %v", version, v.l, kind, v.is)
				}
			}
		}
	}
}

// P15.1: there are no other versions.
func TestFitsVersions(t *testing.T) {
	for _, version := range others {
		for _, c := range slices.Concat(samples(4), samples(5)) {
			if limits.Fits(version, most, c.p) {
				t.Errorf("Fits(%d, most, %v)", version, c.p)
			}
		}
	}
}

// P15.1: a packet that is not valid does not fit, as short as it may be.
func TestFitsInvalid(t *testing.T) {
	for _, c := range []struct {
		versions []int
		p        api.Packet
	}{
		{versions, api.Packet{}},
		{versions, api.Packet{Kind: -1}},
		{versions, api.Packet{Kind: 16}},
		{versions, api.Packet{Kind: math.MaxInt}},
		{versions[:1], api.Packet{Kind: 15}},
		{versions, api.Packet{Kind: 12, ID: 1}},
		{versions, api.Packet{Kind: 13, Payload: "a"}},
		{versions, api.Packet{Kind: 3}},
		{versions, api.Packet{Kind: 3, Topic: "a/#"}},
		{versions, api.Packet{Kind: 3, Topic: "\xff"}},
		{versions, api.Packet{Kind: 3, Topic: "a", QoS: 3, ID: 1}},
		{versions, api.Packet{Kind: 3, Topic: "a", QoS: 1}},
		{versions, api.Packet{Kind: 3, Topic: "a", Props: []api.Prop{{ID: 99}}}},
		{versions, api.Packet{Kind: 4}},
		{versions, api.Packet{Kind: 8, ID: 1}},
		{versions[:1], api.Packet{Kind: 14, Code: 4}},
		{versions[1:], api.Packet{Kind: 14, Code: 3}},
	} {
		for _, version := range c.versions {
			if limits.Fits(version, most, c.p) {
				t.Errorf("Fits(%d, most, %v)", version, c.p)
			}
		}
	}
}

// P15.1 and P15.3: a valid packet is read under exactly those limits that it fits, and is too long under others.
func TestFitsIsRead(t *testing.T) {
	for _, version := range versions {
		for _, c := range samples(version) {
			for maxPacket := 16; maxPacket < 24; maxPacket++ {
				p, at, e := limits.Split(version, limited(maxPacket), c.s)
				if limits.Fits(version, limited(maxPacket), c.p) {
					expect(t, version, maxPacket, c.s, result{[]api.Packet{c.p}, len(c.s), api.OK})
				} else if len(p) != 0 || at != 0 || e != api.ErrLong {
					t.Errorf("Split(%d, %d, %x): %v %d %d", version, maxPacket, c.s, p, at, e)
				}
			}
		}
	}
}
