package subscribe_test

import (
	"slices"
	"strings"
	"testing"

	"polyglot/api"
	"polyglot/head"
	"polyglot/prop"
	"polyglot/subscribe"
	"polyglot/ustring"
)

// meantRead is what Read is to return, by the words of the document.
func meantRead(version, kind int, s string) (api.Packet, api.Errno) {
	none := api.Packet{}
	if version != 4 && version != 5 || !slices.Contains(kinds, kind) {
		return none, 2
	}
	if len(s) < 2 {
		return none, 3
	}
	p := api.Packet{Kind: kind, ID: int(s[0])*256 + int(s[1])}
	s = s[2:]
	if version == 5 {
		l, size, e := prop.Read(kind, s)
		if e != 0 {
			return none, e
		}
		p.Props, s = l, s[size:]
	}
	if kind == 9 || kind == 11 {
		for _, b := range []byte(s) {
			p.Codes = append(p.Codes, int(b))
		}
		s = ""
	}
	for len(s) > 0 {
		f, rest, e := meantFilter(version, kind, s)
		if e != 0 {
			return none, e
		}
		p.Filters, s = append(p.Filters, f), rest
	}
	if e := meantValid(version, p); e != 0 {
		return none, e
	}
	return p, 0
}

// meantFilter reads one filter, and returns what is left.
func meantFilter(version, kind int, s string) (f api.Filter, rest string, e api.Errno) {
	if len(s) < 2 {
		return f, "", 3
	}
	end := 2 + int(s[0])*256 + int(s[1])
	if len(s) < end {
		return f, "", 3
	}
	f.Topic, rest = s[2:end], s[end:]
	if !ustring.Valid(f.Topic) {
		return f, "", 6
	}
	if kind == 10 {
		return f, rest, 0
	}
	if rest == "" {
		return f, "", 3
	}
	b := rest[0]
	if version == 4 && b > 3 || version == 5 && b > 63 {
		return f, "", 7
	}
	f.QoS, f.NoLocal, f.AsPublished, f.Handling = int(b%4), b/4%2 == 1, b/8%2 == 1, int(b/16)
	return f, rest[1:], 0
}

// read wants of Read what is meant, and of what is read that it is valid, and has the bytes for its body.
func read(t *testing.T, version, kind int, s string) api.Errno {
	t.Helper()
	want, wantE := meantRead(version, kind, s)
	p, e := subscribe.Read(version, kind, s)
	if e != wantE || !head.Same(p, want) {
		t.Fatalf("Read(%d, %d, %.200x): %.400v %d, not %.400v %d", version, kind, s, p, e, want, wantE)
	}
	if e != api.OK {
		return e
	}
	if back, e := subscribe.Body(version, p); back != s || e != api.OK {
		t.Fatalf("Read(%d, %d, %.200x): its body is %.200x %d", version, kind, s, back, e)
	}
	return api.OK
}

func expectRead(t *testing.T, version, kind int, s string, want api.Errno) {
	t.Helper()
	if e := read(t, version, kind, s); e != want {
		t.Errorf("Read(%d, %d, %.200x): %d, not %d", version, kind, s, e, want)
	}
}

// bodies are good and bad ones.
func bodies() []string {
	l := []string{
		"", "\x00", "\x00\x00", "\x00\x01", "\x00\x01\x00", "\x00\x01\x80", "\x00\x01\x01\x80", "\x00\x00\x00\x00\x01a\x00",
		"\x00\x01\x00\x01a", "\x00\x01\x00\x01a\x04", "\x00\x01\x00\x01a\x00", "\x00\x01\x00\x02a#\x00", "\x00\x01\x00\x01\xff\x00", "\x00\x01\x00\x00\x00",
		"\x00\x01\x00\x00\x01a\x00\x00\x01b\x02", "\x00\x01\x02\x0b\x07\x00\x01a\x24", "\x00\x01\x00\x00\x0a$share/g/a\x04",
		"\x00\x01\x04\x1f\x00\x01r\x00\x80",
	}
	for _, version := range versions {
		for _, kind := range kinds {
			l = append(l, fullBodies[version][kind])
		}
	}
	return l
}

// P11.2: a version that does not exist, or another kind, whatever the bytes.
func TestReadVersionsAndKinds(t *testing.T) {
	for _, s := range bodies() {
		for _, n := range numbers() {
			for _, kind := range kinds {
				if n != 4 && n != 5 {
					expectRead(t, n, kind, s, api.ErrArg)
				}
			}
			for _, version := range versions {
				if e := read(t, version, n, s); e != api.ErrArg && (n < 8 || n > 11) {
					t.Errorf("kind %d: %d", n, e)
				}
			}
		}
	}
}

// packets returns packets of a version in all combinations of parts.
func packets(version int) []api.Packet {
	var all []api.Packet
	props := [][]api.Prop{nil}
	if version == 5 {
		props = append(props, []api.Prop{{ID: 38}}, slices.Repeat([]api.Prop{{ID: 38, Text: "k"}}, 30))
	}
	for _, kind := range kinds {
		for _, id := range []int{1, 255, 256, 65535} {
			for _, l := range props {
				p := full(version, kind)
				p.ID, p.Props = id, l
				all = append(all, p)
				if len(p.Filters) > 0 {
					p.Filters = slices.Repeat(p.Filters, 20)
				}
				if len(p.Codes) > 0 {
					p.Codes = slices.Repeat(p.Codes, 20)
				}
				all = append(all, p)
				if len(p.Filters) > 0 {
					p.Filters = p.Filters[1:2]
				}
				if len(p.Codes) > 0 {
					p.Codes = p.Codes[1:2]
				}
				all = append(all, p)
			}
		}
	}
	return all
}

// P11.4: the packet is read from its body. A part of the body is read only if it ends where a filter does, or between codes.
func TestReadOfBody(t *testing.T) {
	for _, version := range versions {
		for _, p := range packets(version) {
			s, e := subscribe.Body(version, p)
			got, readE := subscribe.Read(version, p.Kind, s)
			if e != api.OK || readE != api.OK || !head.Same(got, p) {
				t.Fatalf("%d %v: %x %d; %v %d", version, p, s, e, got, readE)
			}
			whole := 0
			for cut := range s {
				if read(t, version, p.Kind, s[:cut]) == api.OK {
					whole++
				}
			}
			if whole != max(0, len(p.Filters)+len(p.Codes)-1) {
				t.Fatalf("%d %v: %d parts of %x", version, p, whole, s)
			}
			for _, more := range []string{"\x00", "\x01", "\x00\x00", "\x00\x01c", "\x00\x01c\x01", "\xff\xff", s} {
				read(t, version, p.Kind, s+more)
			}
		}
	}
}

// P11.2 and P11.4: every byte of a body with every value, with all kinds and both versions.
func TestReadChanged(t *testing.T) {
	for _, s := range bodies() {
		for at := range s {
			for b := range 256 {
				changed := s[:at] + string([]byte{byte(b)}) + s[at+1:]
				for kind := 7; kind <= 12; kind++ {
					read(t, 4, kind, changed)
					read(t, 5, kind, changed)
				}
			}
		}
	}
}

// P11.2: all short bodies of a few bytes that matter.
func TestReadShortBodies(t *testing.T) {
	few := []byte{0, 1, 2, '#', 'a', 0x40, 0x80, 0xff}
	level := []string{""}
	for range 6 {
		var next []string
		for _, s := range level {
			for _, b := range few {
				next = append(next, s+string([]byte{b}))
			}
			for _, version := range versions {
				for _, kind := range kinds {
					read(t, version, kind, s)
					read(t, version, kind, "\x00\x01"+s)
				}
			}
		}
		level = next
	}
}

// P11.2: every options byte, of a filter and of a shared one.
func TestReadOptions(t *testing.T) {
	for b := range 256 {
		s := string([]byte{byte(b)})
		of311, of5 := api.OK, api.OK
		if b%4 == 3 {
			of311, of5 = api.ErrArg, api.ErrArg
		}
		if b/16%4 == 3 {
			of5 = api.ErrArg
		}
		if b > 3 {
			of311 = api.ErrFlags
		}
		if b > 63 {
			of5 = api.ErrFlags
		}
		expectRead(t, 4, 8, "\x00\x01\x00\x01a"+s, of311)
		expectRead(t, 4, 8, "\x00\x01\x00\x0a$share/g/a"+s, of311)
		expectRead(t, 5, 8, "\x00\x01\x00\x00\x01a"+s, of5)
		if of5 == api.OK && b&4 != 0 {
			of5 = api.ErrArg
		}
		expectRead(t, 5, 8, "\x00\x01\x00\x00\x0a$share/g/a"+s, of5)
	}
}

// P11.2: the errors by hand, and which of them comes first.
func TestReadErrors(t *testing.T) {
	for _, c := range []struct {
		version, kind int
		s             string
		want          api.Errno
	}{
		{3, 8, "", api.ErrArg},
		{5, 7, "", api.ErrArg},
		{5, 12, "\x00\x01", api.ErrArg},
		{4, 8, "", api.ErrShort},
		{4, 9, "\x00", api.ErrShort},
		{4, 11, "\x00", api.ErrShort},
		{5, 10, "\x00", api.ErrShort},
		{4, 8, "\x00\x01", api.ErrArg}, // no filters
		{4, 10, "\x00\x01", api.ErrArg},
		{4, 9, "\x00\x01", api.ErrArg}, // no codes
		{4, 11, "\x00\x01", api.OK},
		{4, 11, "\x00\x00", api.ErrArg},
		{4, 11, "\x00\x01\x00", api.ErrArg}, // codes, which 3.1.1 does not have
		{4, 11, "\x00\x01\x00\x00", api.ErrArg},
		{5, 8, "\x00\x01", api.ErrShort}, // of the properties
		{5, 9, "\x00\x01", api.ErrShort},
		{5, 10, "\x00\x01", api.ErrShort},
		{5, 11, "\x00\x01", api.ErrShort},
		{5, 8, "\x00\x01\x00", api.ErrArg},
		{5, 9, "\x00\x01\x00", api.ErrArg},
		{5, 10, "\x00\x01\x00", api.ErrArg},
		{5, 11, "\x00\x01\x00", api.ErrArg},
		{5, 11, "\x00\x01\x00\x00", api.OK},
		{5, 11, "\x00\x01\x00\x01", api.ErrArg}, // a code of SUBACK
		{5, 9, "\x00\x01\x00\x01", api.OK},
		{4, 9, "\x00\x01\x01\x80\x02\x00", api.OK},
		{4, 9, "\x00\x01\x01\x80\x03\x00", api.ErrArg},
		{4, 9, "\x00\x00\x01", api.ErrArg},
		{5, 8, "\x00\x00\x80\x00\x00\x01", api.ErrBad},
		{5, 8, "\x00\x01\x01\x26\x00", api.ErrBad},
		{5, 8, "\x00\x01\x03\x1f\x00\x00\x00", api.ErrProp}, // of SUBACK, ahead of the filter
		{5, 9, "\x00\x01\x03\x1f\x00\x00\x00", api.OK},
		{5, 10, "\x00\x01\x02\x0b\x07\x00\x01a", api.ErrProp}, // of SUBSCRIBE
		{5, 8, "\x00\x01\x02\x0b\x07\x00\x01a\x00", api.OK},
		{5, 8, "\x00\x01\x04\x0b\x07\x0b\x08\x00\x01a\x00", api.ErrProp},
		{5, 9, "\x00\x01\x04\x1f\x00\x01\xff\x03", api.ErrText}, // ahead of the code
		{4, 8, "\x00\x01\x00", api.ErrShort},
		{4, 8, "\x00\x01\x00\x01", api.ErrShort},
		{4, 8, "\x00\x01\x00\x01a", api.ErrShort}, // the options
		{4, 10, "\x00\x01\x00\x01a", api.OK},
		{4, 10, "\x00\x01\x00\x01a\x00", api.ErrShort}, // it has no options: another string begins
		{4, 8, "\x00\x01\x00\x01a\x02\x00", api.ErrShort},
		{4, 8, "\x00\x01\x00\x01\xff", api.ErrText}, // ahead of the options
		{4, 8, "\x00\x01\x00\x01\x00\xff", api.ErrText},
		{4, 8, "\x00\x01\x00\x02a#\x04", api.ErrFlags}, // ahead of the topic
		{4, 8, "\x00\x01\x00\x02a#\x00", api.ErrTopic},
		{4, 8, "\x00\x01\x00\x00\x00", api.ErrTopic},
		{4, 8, "\x00\x01\x00\x00\x03", api.ErrTopic}, // ahead of the QoS
		{4, 8, "\x00\x01\x00\x02a#\x00\x00\x01\xff", api.ErrText},
		{4, 8, "\x00\x01\x00\x01a\x03\x00\x02a#\x00", api.ErrArg},
		{4, 8, "\x00\x01\x00\x01a\x04\x00\x01\xff", api.ErrFlags},
		{4, 8, "\x00\x00\x00\x01a\x04", api.ErrFlags}, // ahead of the ID
		{4, 8, "\x00\x00\x00\x02a#\x00", api.ErrArg},
		{5, 8, "\x00\x01\x00\x00\x01a\x3f", api.ErrArg},
		{5, 8, "\x00\x01\x00\x00\x01a\x40", api.ErrFlags},
		{5, 8, "\x00\x01\x00\x00\x01a\x80", api.ErrFlags},
		{5, 8, "\x00\x01\x00\x00\x01a\x2e", api.OK},
	} {
		expectRead(t, c.version, c.kind, c.s, c.want)
	}
}

// P11.2 and P11.4: many filters, many codes, and a topic at its greatest.
func TestReadLong(t *testing.T) {
	long := strings.Repeat("x", 65535)
	for _, version := range versions {
		for _, kind := range kinds {
			p := full(version, kind)
			if len(p.Filters) > 0 {
				p.Filters = slices.Repeat(p.Filters, 20000)
			}
			if len(p.Codes) > 0 {
				p.Codes = slices.Repeat(p.Codes, 20000)
			}
			expect(t, version, p, api.OK)
			if len(p.Filters) > 0 {
				p.Filters = []api.Filter{{Topic: long}, {Topic: "a"}, {Topic: long}}
				expect(t, version, p, api.OK)
				s, _ := subscribe.Body(version, p)
				expectRead(t, version, kind, s[:len(s)-2], api.ErrShort)
			}
		}
	}
}

// Rule 3: the lists of a packet that was read are new memory, and another reading is not affected.
func TestReadIsNew(t *testing.T) {
	for _, version := range versions {
		for _, kind := range kinds {
			s := fullBodies[version][kind]
			p, _ := subscribe.Read(version, kind, s)
			for i := range p.Filters[:cap(p.Filters)] {
				p.Filters[:cap(p.Filters)][i] = api.Filter{Topic: "z"}
			}
			for i := range p.Codes[:cap(p.Codes)] {
				p.Codes[:cap(p.Codes)][i] = 99
			}
			for i := range p.Props[:cap(p.Props)] {
				p.Props[:cap(p.Props)][i] = api.Prop{ID: 99}
			}
			if q, e := subscribe.Read(version, kind, s); e != api.OK || !head.Same(q, full(version, kind)) {
				t.Errorf("%v %d", q, e)
			}
		}
	}
}
