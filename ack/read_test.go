package ack_test

import (
	"slices"
	"strings"
	"testing"

	"polyglot/ack"
	"polyglot/api"
	"polyglot/head"
	"polyglot/prop"
)

// meantRead is what Read is to return, by the words of the document.
func meantRead(version, kind int, s string) (api.Packet, api.Errno) {
	if version != 4 && version != 5 || kind < 4 || kind > 7 {
		return api.Packet{}, 2
	}
	if len(s) < 2 {
		return api.Packet{}, 3
	}
	p := api.Packet{Kind: kind, ID: int(s[0])*256 + int(s[1])}
	if version == 4 && len(s) > 2 {
		return api.Packet{}, 5
	}
	if len(s) > 2 {
		p.Code = int(s[2])
	}
	if len(s) > 3 {
		l, size, e := prop.Read(kind, s[3:])
		if e != api.OK {
			return api.Packet{}, e
		}
		if 3+size < len(s) {
			return api.Packet{}, 5
		}
		p.Props = l
	}
	if len(s) == 3 && p.Code == 0 || len(s) > 3 && len(p.Props) == 0 {
		return api.Packet{}, 5
	}
	if p.ID == 0 || !slices.Contains(codes[kind], p.Code) {
		return api.Packet{}, 2
	}
	return p, 0
}

// read wants of Read what is meant, and of what is read that it is valid, and has the bytes for its body.
func read(t *testing.T, version, kind int, s string) api.Errno {
	t.Helper()
	want, wantE := meantRead(version, kind, s)
	p, e := ack.Read(version, kind, s)
	if e != wantE || !head.Same(p, want) {
		t.Fatalf("Read(%d, %d, %.200x): %.400v %d, not %.400v %d", version, kind, s, p, e, want, wantE)
	}
	if e != api.OK {
		return e
	}
	if back, e := ack.Body(version, p); back != s || e != api.OK {
		t.Fatalf("Read(%d, %d, %.200x): its body is %.200x %d", version, kind, s, back, e)
	}
	return api.OK
}

func expectRead(t *testing.T, version, kind int, s string, want api.Errno) {
	t.Helper()
	if e := read(t, version, kind, s); e != want {
		t.Errorf("Read(%d, %d, %.200x): %d, not %d", version, kind, s, e, want)
	}
}

// bodies are good and bad ones.
var bodies = []string{
	"", "\x00", "\x00\x00", "\x00\x07", "\xff\xff", "\x00\x07\x00", "\x00\x07\x10", "\x00\x07\x92", "\x00\x07\x01", "\x00\x07\x00\x00", "\x00\x07\x10\x00",
	"\x00\x07\x00\x03\x1f\x00\x00", "\x00\x07\x92\x04\x1f\x00\x01r", "\x00\x00\x10\x04\x1f\x00\x01r", "\x00\x07\x10\x04\x1f\x00\x01rx",
	"\x12\x34\x10" + fullTail,
}

// P10.2: a version that does not exist, or another kind, whatever the bytes.
func TestReadVersionsAndKinds(t *testing.T) {
	for _, s := range bodies {
		for _, n := range numbers() {
			for _, kind := range kinds {
				if n != 4 && n != 5 {
					expectRead(t, n, kind, s, api.ErrArg)
				}
			}
			for _, version := range versions {
				if e := read(t, version, n, s); e != api.ErrArg && (n < 4 || n > 7) {
					t.Errorf("kind %d: %d", n, e)
				}
			}
		}
	}
}

// packets returns packets of a version in all combinations of parts.
func packets(version int) []api.Packet {
	var all []api.Packet
	for _, kind := range kinds {
		for _, id := range []int{1, 7, 255, 256, 0x1234, 65535} {
			all = append(all, api.Packet{Kind: kind, ID: id})
			if version == 4 {
				continue
			}
			for _, code := range codes[kind] {
				for _, l := range [][]api.Prop{nil, {{ID: 31}}, full(5, kind).Props, slices.Repeat([]api.Prop{{ID: 38, Text: "k"}}, 30)} {
					all = append(all, api.Packet{Kind: kind, ID: id, Code: code, Props: l})
				}
			}
		}
	}
	return all
}

// P10.3: the packet is read from its body, and from all of it.
func TestReadOfBody(t *testing.T) {
	for _, version := range versions {
		for _, p := range packets(version) {
			s, e := ack.Body(version, p)
			got, readE := ack.Read(version, p.Kind, s)
			if e != api.OK || readE != api.OK || !head.Same(got, p) {
				t.Fatalf("%d %v: %x %d; %v %d", version, p, s, e, got, readE)
			}
			for cut := range s {
				if e := read(t, version, p.Kind, s[:cut]); e == api.OK && cut != 2 && cut != 3 {
					t.Fatalf("Read(%d, %d, %x)", version, p.Kind, s[:cut])
				}
			}
			for _, more := range []string{"\x00", "\x10", "\x00\x00", "\xff\xff", s} {
				if read(t, version, p.Kind, s+more) == api.OK && (version == 4 || len(s) > 2) {
					t.Fatalf("Read(%d, %d, %x)", version, p.Kind, s+more)
				}
			}
			if len(p.Props) > 0 {
				expectRead(t, version, p.Kind, s+"\x00", api.ErrBad)
			}
		}
	}
}

// P10.2 and P10.3: every byte of a body with every value, with all kinds and both versions.
func TestReadChanged(t *testing.T) {
	for _, s := range bodies {
		for at := range s {
			for b := range 256 {
				changed := s[:at] + string([]byte{byte(b)}) + s[at+1:]
				for kind := 3; kind <= 8; kind++ {
					read(t, 4, kind, changed)
					read(t, 5, kind, changed)
				}
			}
		}
	}
}

// P10.2: all bodies of up to two bytes, and with all codes, alone and with a short rest.
func TestReadShortBodies(t *testing.T) {
	for _, version := range versions {
		for _, kind := range kinds {
			read(t, version, kind, "")
			for first := range 256 {
				read(t, version, kind, string([]byte{byte(first)}))
				for second := range 256 {
					read(t, version, kind, string([]byte{byte(first), byte(second)}))
				}
				for _, id := range []string{"\x00\x00", "\x00\x07"} {
					for _, rest := range []string{"", "\x00", "\x00\x00", "\x01", "\x80", "\x80\x00", "\x03\x1f\x00\x00", "\x03\x1f\x00\x00\x00"} {
						read(t, version, kind, id+string([]byte{byte(first)})+rest)
					}
				}
			}
		}
	}
}

// P10.2: the errors by hand, and which of them comes first.
func TestReadErrors(t *testing.T) {
	for _, c := range []struct {
		version, kind int
		s             string
		want          api.Errno
	}{
		{3, 4, "", api.ErrArg},
		{5, 3, "", api.ErrArg},
		{5, 8, "\x00\x07", api.ErrArg},
		{4, 4, "", api.ErrShort},
		{4, 4, "\x00", api.ErrShort},
		{5, 4, "", api.ErrShort},
		{5, 7, "\x07", api.ErrShort},
		{4, 4, "\x00\x00", api.ErrArg},
		{4, 4, "\x00\x00\x00", api.ErrBad},
		{4, 4, "\x00\x07\x00", api.ErrBad},
		{4, 5, "\x00\x07\x10", api.ErrBad},
		{4, 6, "\x00\x07\x92\x04\x1f\x00\x01r", api.ErrBad},
		{5, 4, "\x00\x00", api.ErrArg},
		{5, 4, "\x00\x07", api.OK},
		{5, 4, "\x00\x07\x00", api.ErrBad}, // longer than necessary
		{5, 4, "\x00\x00\x00", api.ErrBad}, // likewise, ahead of the ID
		{5, 4, "\x00\x07\x10", api.OK},
		{5, 4, "\x00\x07\x92", api.ErrArg}, // a code of the other kinds
		{5, 6, "\x00\x07\x92", api.OK},
		{5, 6, "\x00\x07\x10", api.ErrArg},
		{5, 4, "\x00\x07\x01", api.ErrArg},
		{5, 4, "\x00\x00\x10", api.ErrArg},
		{5, 4, "\x00\x07\x00\x00", api.ErrBad}, // longer than necessary
		{5, 4, "\x00\x07\x10\x00", api.ErrBad}, // likewise
		{5, 4, "\x00\x07\x01\x00", api.ErrBad}, // likewise, ahead of the code
		{5, 4, "\x00\x07\x10\x00\x00", api.ErrBad},
		{5, 4, "\x00\x07\x01\x80", api.ErrShort}, // of the properties, ahead of the code
		{5, 4, "\x00\x07\x10\x80\x00", api.ErrBad},
		{5, 4, "\x00\x07\x10\xff\xff\xff\xff", api.ErrBad},
		{5, 4, "\x00\x00\x10\x04\x1f\x00\x01", api.ErrShort},
		{5, 4, "\x00\x07\x10\x03\x1f\x00\x01r", api.ErrBad},
		{5, 4, "\x00\x07\x01\x02\x01\x01", api.ErrProp}, // of PUBLISH
		{5, 4, "\x00\x07\x10\x06\x1f\x00\x00\x1f\x00\x00", api.ErrProp},
		{5, 4, "\x00\x07\x10\x04\x1f\x00\x01\xff", api.ErrText},
		{5, 4, "\x00\x07\x10\x04\x1f\x00\x01\xff\x00", api.ErrText}, // ahead of what follows
		{5, 4, "\x00\x07\x10\x04\x1f\x00\x01r\x00", api.ErrBad},
		{5, 4, "\x00\x00\x01\x04\x1f\x00\x01r\x00", api.ErrBad}, // ahead of the ID and the code
		{5, 4, "\x00\x07\x01\x04\x1f\x00\x01r", api.ErrArg},
		{5, 4, "\x00\x00\x10\x04\x1f\x00\x01r", api.ErrArg},
		{5, 4, "\x00\x07\x00\x04\x1f\x00\x01r", api.OK}, // a code of 0 is necessary ahead of properties
	} {
		expectRead(t, c.version, c.kind, c.s, c.want)
	}
}

// P10.2 and P10.3: properties at their greatest.
func TestReadLong(t *testing.T) {
	long := strings.Repeat("x", 65535)
	one := "\x26\x00\x00\x00\x00" // 5 bytes; 1,000 of them are 5,000, which are 88 27
	for _, kind := range kinds {
		p := full(5, kind)
		p.Props = slices.Repeat([]api.Prop{{ID: 38, Text: long[:200], Value: long[:100]}}, 1000)
		expect(t, 5, p, api.OK)
		p.Props = []api.Prop{{ID: 38, Text: long, Value: long}, {ID: 31, Text: long}}
		expect(t, 5, p, api.OK)
		expectRead(t, 5, kind, "\x00\x07\x00\x88\x27"+strings.Repeat(one, 1000), api.OK)
		expectRead(t, 5, kind, "\x00\x07\x00\x8d\x27"+strings.Repeat(one, 1001), api.ErrLong)
	}
}

// Rule 3: the properties of a packet that was read are new memory, and another reading is not affected.
func TestReadIsNew(t *testing.T) {
	s, _ := ack.Body(5, full(5, 4))
	p, _ := ack.Read(5, 4, s)
	room := p.Props[:cap(p.Props)]
	for i := range room {
		room[i] = api.Prop{ID: 99}
	}
	if q, e := ack.Read(5, 4, s); e != api.OK || !head.Same(q, full(5, 4)) {
		t.Errorf("%v %d", q, e)
	}
}
