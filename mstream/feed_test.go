package mstream_test

import (
	"math/rand"
	"runtime"
	"slices"
	"strings"
	"testing"

	"polyglot/api"
	"polyglot/head"
	"polyglot/mqtt"
	"polyglot/mstream"
)

// P14.3: every division into two and three chunks, and into single bytes.
func TestDivisions(t *testing.T) {
	for _, version := range versions {
		s := series(version)
		feed(t, version, 1<<20, s)
		feed(t, version, 1<<20, bytewise(s)...)
		for i := range len(s) + 1 {
			feed(t, version, 1<<20, s[:i], s[i:])
			for j := i; j <= len(s); j++ {
				feed(t, version, 18, s[:i], s[i:j], s[j:])
			}
		}
	}
}

// wrong are bytes that are no packets, with the error of each, and how many of them tell it.
var wrong = []struct {
	version int
	s       string
	e       api.Errno
	shows   int
}{
	{4, "\x00\x00", api.ErrKind, 1},
	{4, "\xf0\x00", api.ErrKind, 1}, // only MQTT 5 has AUTH
	{5, "\xf1\x00", api.ErrFlags, 1},
	{4, "\xc1\x00", api.ErrFlags, 1},
	{4, "\x36\x00", api.ErrFlags, 1},               // QoS 3
	{4, "\xff\xff\xff\xff\xff", api.ErrKind, 1},    // the first byte comes first
	{5, "\xc0\xff\xff\xff\xff\x01", api.ErrBad, 5}, // a fifth byte of a length
	{5, "\x30\x80\x80\x80\x80\x01", api.ErrBad, 5},
	{4, "\xc0\x80\x00", api.ErrBad, 3}, // a length longer than necessary
	{4, "\x30\x91\x00", api.ErrBad, 3},
	{4, "\x30\x13", api.ErrLong, 2}, // 21 bytes
	{4, "\x30\x7f\x00\x01a", api.ErrLong, 2},
	{4, "\x30\x80\x01\x00\x01a", api.ErrLong, 3},
	{5, "\x30\xff\xff\xff\x7f", api.ErrLong, 5},
	{4, "\xc0\x13" + strings.Repeat("x", 19), api.ErrLong, 2}, // ahead of what is wrong with the body
	{4, "\xc0\x01x", api.ErrBad, 3},
	{4, "\xc0\x12" + strings.Repeat("x", 18), api.ErrBad, 20}, // the greatest packet: its body is looked at
	{4, "\x30\x02\x00\x05", api.ErrBad, 4},
	{4, "\x30\x02\x00\x05abcde", api.ErrBad, 4}, // what follows does not belong to it
	{4, "\x30\x02\x00\x00", api.ErrTopic, 4},
	{4, "\x30\x03\x00\x01\xff", api.ErrText, 5},
	{4, "\x32\x05\x00\x01a\x00\x00", api.ErrArg, 7},
	{5, "\x30\x06\x00\x01a\x02\x01\x02", api.ErrProp, 8},
	{5, "\x30\x06\x00\x01a\x02\x23\x02", api.ErrBad, 8},
	{4, "\x20\x02\x02\x00", api.ErrFlags, 4},
	{5, "\x20\x00", api.ErrBad, 2},
}

// P14.1: an error comes with the byte that tells it, together with the packets before it; then nothing is kept.
func TestErrors(t *testing.T) {
	const maxPacket = 20
	for _, c := range wrong {
		for told, front := range []string{"", "\xc0\x00", "\x40\x02\x00\x07\xd0\x00"} {
			w := state{at: len(front), e: c.e}
			for _, after := range []string{"", "\xc0\x00", "\xc0\x00\xff"} {
				s := open(t, c.version, limited(maxPacket))
				if l, e := s.Feed(front + c.s + after); len(l) != told || e != c.e {
					t.Errorf("%d: %x%x%x: %v %d, not %d", c.version, front, c.s, after, l, e, c.e)
				}
				holds(t, s, told, w)
			}
			s := open(t, c.version, limited(maxPacket))
			if l, e := s.Feed(front + c.s[:c.shows-1]); len(l) != told || e != api.OK || s.Kept() != c.shows-1 || s.Need() < 1 {
				t.Errorf("%d: %x%x: %v %d", c.version, front, c.s[:c.shows-1], l, e)
			}
			if l, e := s.Feed(c.s[c.shows-1 : c.shows]); len(l) != 0 || e != c.e {
				t.Errorf("%d: %x%x: %v %d, not %d", c.version, front, c.s[:c.shows], l, e, c.e)
			}
			holds(t, s, told, w)
		}
	}
}

// P14.1: an error persists, whatever follows.
func TestErrorsPersist(t *testing.T) {
	for _, c := range wrong {
		s := open(t, c.version, limited(20))
		s.Feed("\xc0\x00" + c.s)
		for _, chunk := range []string{"", "\xc0\x00", c.s, "\x00", "\xd0", series(c.version)} {
			if l, e := s.Feed(chunk); l != nil || e != c.e {
				t.Errorf("%d: %x, %x: %v %d, not %d", c.version, c.s, chunk, l, e, c.e)
			}
			holds(t, s, 1, state{at: 2, e: c.e})
		}
	}
}

// P14.3: errors, too, come in every division.
func TestErrorsDivided(t *testing.T) {
	for _, c := range wrong {
		for _, front := range []string{"", "\xc0\x00", packets(c.version)[1]} {
			s := front + c.s + "\xc0\x00"
			feed(t, c.version, 20, s)
			feed(t, c.version, 20, bytewise(s)...)
			for i := range len(s) + 1 {
				for j := i; j <= len(s); j++ {
					feed(t, c.version, 20, s[:i], s[i:j], s[j:])
				}
			}
		}
	}
}

// publication returns the bytes of a PUBLISH of 3.1.1 of so many bytes.
func publication(t *testing.T, size int) string {
	t.Helper()
	for header := 2; header <= 5; header++ {
		s, e := mqtt.Bytes(4, api.Packet{Kind: 3, Topic: "a", Payload: strings.Repeat("p", size-header-3)})
		if len(s) == size && e == api.OK {
			return s
		}
	}
	t.Fatalf("no PUBLISH has %d bytes", size)
	return ""
}

// P14.1 and P14.3: packets just as long as they may be, and the next longer ones, which are rejected with their headers.
func TestLongest(t *testing.T) {
	for _, c := range []struct {
		maxPacket int
		long      string
	}{
		{16, "\x30\x0f"},
		{17, "\x30\x10"},
		{129, "\x30\x80\x01"}, // no packet has 130 bytes
		{131, "\x30\x81\x01"},
		{4096, "\x30\xfe\x1f"},
		{16_386, "\x30\x80\x80\x01"},
		{16_388, "\x30\x81\x80\x01"},
		{1<<20 - 1, "\x30\xfc\xff\x3f"},
		{1 << 20, "\x30\xfd\xff\x3f"},
	} {
		right := publication(t, c.maxPacket)
		last := c.maxPacket - 1
		feed(t, 4, c.maxPacket, right)
		feed(t, 4, c.maxPacket, right[:last], right[last:])
		feed(t, 4, c.maxPacket, right[:1], right[1:last], right[last:]+right[:1], right[1:]+right)
		s := open(t, 4, limited(c.maxPacket))
		if l, e := s.Feed(right + right[:last]); len(l) != 1 || e != api.OK {
			t.Errorf("%d: %d %d", c.maxPacket, len(l), e)
		}
		holds(t, s, 1, state{at: c.maxPacket, kept: last, need: 1})
		end := len(c.long) - 1
		if l, e := s.Feed(right[last:] + c.long[:end]); len(l) != 1 || e != api.OK {
			t.Errorf("%d: %d %d", c.maxPacket, len(l), e)
		}
		holds(t, s, 2, state{at: 2 * c.maxPacket, kept: end, need: 1})
		if l, e := s.Feed(c.long[end:]); len(l) != 0 || e != api.ErrLong {
			t.Errorf("%d: %d %d", c.maxPacket, len(l), e)
		}
		holds(t, s, 2, state{at: 2 * c.maxPacket, e: api.ErrLong})
	}
}

// P14.2 and P14.3: the longest packet byte by byte comes with its last byte.
func TestBytewise(t *testing.T) {
	right := publication(t, 1<<20)
	s := open(t, 4, limited(1<<20))
	for i := range len(right) - 1 {
		if l, e := s.Feed(right[i : i+1]); l != nil || e != api.OK || s.Kept() != i+1 || s.At() != 0 {
			t.Fatal(i, l, e)
		}
		if i >= 3 && s.Need() != len(right)-1-i || i < 3 && s.Need() != 1 {
			t.Fatal(i, s.Need())
		}
	}
	if l, e := s.Feed(right[len(right)-1:]); len(l) != 1 || e != api.OK || len(l[0].Payload) != 1<<20-7 {
		t.Error(len(l), e)
	}
	holds(t, s, 1, state{at: 1 << 20, need: 1})
}

// P14.1: a chunk much longer than a packet may be, with packets of all lengths lying across every boundary.
func TestLongChunks(t *testing.T) {
	for _, maxPacket := range []int{16, 17, 31, 100} {
		var all strings.Builder
		for i := range 3000 {
			if i%3 == 0 {
				all.WriteString("\xd0\x00")
				continue
			}
			all.WriteString(publication(t, 6+i%(maxPacket-5)))
		}
		s := all.String()
		feed(t, 4, maxPacket, s)
		feed(t, 4, maxPacket, s[:1], s[1:])
		feed(t, 4, maxPacket, s[:len(s)-1], s[len(s)-1:])
		feed(t, 4, maxPacket, s+"\x30", "\x7f"+s)
		feed(t, 4, maxPacket, s+"\x20\x02\x00\x06"+s, s)
	}
	const many = 100_000
	for _, maxPacket := range []int{16, 1 << 20} {
		s := open(t, 4, limited(maxPacket))
		if l, e := s.Feed(strings.Repeat("\xd0\x00", many) + "\xd0"); !same(l, slices.Repeat([]api.Packet{{Kind: 13}}, many)) || e != api.OK {
			t.Error(len(l), e)
		}
		holds(t, s, many, state{at: 2 * many, kept: 1, need: 1})
	}
}

// divided returns s in chunks of lengths by chance, empty ones among them.
func divided(r *rand.Rand, s string) (chunks []string) {
	for longest := 1 + r.Intn(40); s != ""; {
		size := min(r.Intn(longest+1), len(s))
		chunks = append(chunks, s[:size])
		s = s[size:]
	}
	return chunks
}

// P14.3: packets in any order, some of them changed, with any limit and in any division.
func TestChanged(t *testing.T) {
	r := rand.New(rand.NewSource(14))
	for range 20_000 {
		version := versions[r.Intn(2)]
		s := ""
		for range r.Intn(12) {
			s += packets(version)[r.Intn(len(packets(version)))]
		}
		if s != "" && r.Intn(3) > 0 {
			at := r.Intn(len(s))
			s = s[:at] + string([]byte{byte(r.Intn(256))}) + s[at+r.Intn(2):]
		}
		feed(t, version, 16+r.Intn(20), divided(r, s)...)
	}
}

// P14.3 and T1: what is written, within the limits, is read: exactly that, and nothing is kept.
func TestWritten(t *testing.T) {
	for _, version := range versions {
		var want []api.Packet
		for _, bytes := range packets(version) {
			p, _, e := mqtt.Read(version, bytes)
			if e != api.OK {
				t.Fatalf("%d: %x: %d", version, bytes, e)
			}
			want = append(want, p)
		}
		r := rand.New(rand.NewSource(1))
		for range 200 {
			s := open(t, version, limited(18))
			var got []api.Packet
			for _, chunk := range divided(r, series(version)) {
				l, e := s.Feed(chunk)
				if e != api.OK {
					t.Fatal(e)
				}
				got = append(got, l...)
			}
			if !same(got, want) {
				t.Fatalf("%d: %v, not %v", version, got, want)
			}
			holds(t, s, len(want), state{at: len(series(version)), need: 1})
		}
	}
}

// spoil changes all lists of packets, up to what they have room for.
func spoil(l []api.Packet) {
	l = l[:cap(l)]
	for i, p := range l {
		for j := range p.Codes[:cap(p.Codes)] {
			p.Codes[:cap(p.Codes)][j] = -1
		}
		for j := range p.Filters[:cap(p.Filters)] {
			p.Filters[:cap(p.Filters)][j] = api.Filter{Topic: "spoilt"}
		}
		for j := range p.Props[:cap(p.Props)] {
			p.Props[:cap(p.Props)][j] = api.Prop{ID: 99}
		}
		l[i] = api.Packet{Kind: -1}
	}
}

// Rule 3: results are new memory: neither the stream nor a result of it notices what is done with another one.
func TestResultsAreNew(t *testing.T) {
	for _, version := range versions {
		s := series(version)
		want := meant(version, 1<<20, s).packets
		stream := open(t, version, most)
		first, _ := stream.Feed(s + s[:5])
		kept := make([]api.Packet, len(first))
		for i, p := range first {
			kept[i] = head.Copy(p)
		}
		second, _ := stream.Feed(s[5:] + s[:5])
		if !same(first, kept) || !same(first, want) {
			t.Errorf("%d: a later chunk changed an earlier result", version)
		}
		spoil(first)
		if !same(second, want) {
			t.Errorf("%d: an earlier result changed a later one", version)
		}
		spoil(second)
		if third, e := stream.Feed(s[5:]); !same(third, want) || e != api.OK {
			t.Errorf("%d: %v %d", version, third, e)
		}
	}
}

// P14.3: streams do not know of one another.
func TestStreamsAreApart(t *testing.T) {
	a, b := open(t, 4, limited(16)), open(t, 4, limited(20))
	for range 3 {
		a.Feed("\x30\x05\x00")
		b.Feed("\x30\x09\x00\x01b1")
		if l, e := a.Feed("\x01axx"); !same(l, []api.Packet{{Kind: 3, Topic: "a", Payload: "xx"}}) || e != api.OK {
			t.Error(l, e)
		}
		if l, e := b.Feed("23456"); !same(l, []api.Packet{{Kind: 3, Topic: "b", Payload: "123456"}}) || e != api.OK {
			t.Error(l, e)
		}
	}
	a.Feed("\x30\x0f")
	if l, e := b.Feed("\xc0\x00\x30\x0f"); a.Err() != api.ErrLong || len(l) != 1 || e != api.OK {
		t.Error(a.Err(), l, e)
	}
}

// held returns how many bytes of memory are in use.
func held() int {
	runtime.GC()
	var m runtime.MemStats
	runtime.ReadMemStats(&m)
	return int(m.HeapAlloc)
}

// T3: neither the packets that were told, nor what came with an error, stay in memory; only what is kept does.
func TestMemory(t *testing.T) {
	const streams = 64
	long := publication(t, 1<<20-2)
	front, back := long[:1<<19], long[1<<19:]
	for name, c := range map[string]struct {
		chunks []string
		kept   int
		e      api.Errno
	}{
		"nothing follows":    {[]string{long}, 0, api.OK},
		"a byte follows":     {[]string{long + "\x30"}, 1, api.OK},
		"a header follows":   {[]string{front, back + "\x30\xff\x3f"}, 3, api.OK},
		"no header follows":  {[]string{front, back + "\x00"}, 0, api.ErrKind},
		"too much follows":   {[]string{front, back + "\x30\xff\xff\x7f" + front}, 0, api.ErrLong},
		"it is none, at all": {[]string{"\x30\xfa\xff\x3f\x00\x01\xff" + front[7:], back}, 0, api.ErrText},
	} {
		before := held()
		var all []*mstream.Stream
		for range streams {
			s := open(t, 4, most)
			for _, chunk := range c.chunks {
				s.Feed(chunk)
			}
			if s.Kept() != c.kept || s.Err() != c.e {
				t.Fatalf("%s: %d bytes are kept; %d", name, s.Kept(), s.Err())
			}
			all = append(all, s)
		}
		if more := held() - before; more > streams<<16 {
			t.Errorf("%s: %d streams hold %d bytes", name, streams, more)
		}
		runtime.KeepAlive(all)
	}
}
