package control_test

import (
	"slices"
	"strings"
	"testing"

	"polyglot/api"
	"polyglot/control"
	"polyglot/head"
	"polyglot/prop"
)

// meantRead is what Read is to return, by the words of the document.
func meantRead(version, kind int, s string) (api.Packet, api.Errno) {
	if version != 4 && version != 5 || kind < 12 || kind > 15 {
		return api.Packet{}, 2
	}
	if version == 4 && kind == 15 {
		return api.Packet{}, 8
	}
	p := api.Packet{Kind: kind}
	if s == "" {
		return p, 0
	}
	if !has(version, kind) {
		return api.Packet{}, 5
	}
	p.Code = int(s[0])
	if len(s) > 1 {
		l, size, e := prop.Read(kind, s[1:])
		if e != api.OK {
			return api.Packet{}, e
		}
		if 1+size < len(s) {
			return api.Packet{}, 5
		}
		p.Props = l
	}
	if len(s) == 1 && p.Code == 0 || len(s) > 1 && len(p.Props) == 0 {
		return api.Packet{}, 5
	}
	if !slices.Contains(codes[kind], p.Code) {
		return api.Packet{}, 2
	}
	return p, 0
}

// read wants of Read what is meant, and of what is read that it is valid, and has the bytes for its body.
func read(t *testing.T, version, kind int, s string) api.Errno {
	t.Helper()
	want, wantE := meantRead(version, kind, s)
	p, e := control.Read(version, kind, s)
	if e != wantE || !head.Same(p, want) {
		t.Fatalf("Read(%d, %d, %.200x): %.400v %d, not %.400v %d", version, kind, s, p, e, want, wantE)
	}
	if e != api.OK {
		return e
	}
	if back, e := control.Body(version, p); back != s || e != api.OK {
		t.Fatalf("Read(%d, %d, %.200x): its body is %.200x %d", version, kind, s, back, e)
	}
	return api.OK
}

func expectRead(t *testing.T, version, kind int, s string, want api.Errno) {
	t.Helper()
	if e := read(t, version, kind, s); e != want {
		t.Errorf("Read(%d, %d, %.200x): %d, not %d", version, kind, s, e, want)
	}
}

// bodies are good and bad ones.
var bodies = []string{
	"", "\x00", "\x04", "\x18", "\xff", "\x00\x00", "\x04\x00", "\x18\x80", "\x00\x03\x1f\x00\x00", "\x04\x04\x1f\x00\x01r", "\x18\x04\x1f\x00\x01rx",
	"\x04\x05\x11\x00\x00\x00\x01", "\x18\x08\x15\x00\x01m\x16\x00\x01\xff", "\x04" + fullTail, "\x18" + fullTail,
}

// P12.2: a version that does not exist, or another kind, whatever the bytes.
func TestReadVersionsAndKinds(t *testing.T) {
	for _, s := range bodies {
		for _, n := range numbers() {
			for _, kind := range kinds {
				if n != 4 && n != 5 {
					expectRead(t, n, kind, s, api.ErrArg)
				}
			}
			for _, version := range versions {
				if e := read(t, version, n, s); e != api.ErrArg && (n < 12 || n > 15) {
					t.Errorf("kind %d: %d", n, e)
				}
			}
		}
		expectRead(t, 4, 15, s, api.ErrKind)
	}
}

// P12.2: where there must be no bytes, any are bad.
func TestReadNothing(t *testing.T) {
	for _, c := range []struct{ version, kind int }{{4, 12}, {4, 13}, {4, 14}, {5, 12}, {5, 13}} {
		expectRead(t, c.version, c.kind, "", api.OK)
		for first := range 256 {
			expectRead(t, c.version, c.kind, string([]byte{byte(first)}), api.ErrBad)
			expectRead(t, c.version, c.kind, string([]byte{byte(first)})+"\x01\x01", api.ErrBad)
		}
	}
	expectRead(t, 5, 14, "", api.OK)
	expectRead(t, 5, 15, "", api.OK)
}

// packets returns packets of a version in all combinations of parts.
func packets(version int) []api.Packet {
	var all []api.Packet
	for _, kind := range kinds {
		if !has(version, kind) {
			if version == 5 || kind != 15 {
				all = append(all, api.Packet{Kind: kind})
			}
			continue
		}
		for _, code := range codes[kind] {
			for _, l := range [][]api.Prop{nil, {{ID: 31}}, full(5, kind).Props, slices.Repeat([]api.Prop{{ID: 38, Text: "k"}}, 30)} {
				all = append(all, api.Packet{Kind: kind, Code: code, Props: l})
			}
		}
	}
	return all
}

// P12.3: the packet is read from its body, and from all of it.
func TestReadOfBody(t *testing.T) {
	for _, version := range versions {
		for _, p := range packets(version) {
			s, e := control.Body(version, p)
			got, readE := control.Read(version, p.Kind, s)
			if e != api.OK || readE != api.OK || !head.Same(got, p) {
				t.Fatalf("%d %v: %x %d; %v %d", version, p, s, e, got, readE)
			}
			for cut := range s {
				if e := read(t, version, p.Kind, s[:cut]); e == api.OK && cut > 1 {
					t.Fatalf("Read(%d, %d, %x)", version, p.Kind, s[:cut])
				}
			}
			for _, more := range []string{"\x00", "\x04", "\x00\x00", "\xff\xff", "\x03\x1f\x00\x00", "x" + s} {
				if read(t, version, p.Kind, s+more) == api.OK && (!has(version, p.Kind) || len(s) > 1) {
					t.Fatalf("Read(%d, %d, %x)", version, p.Kind, s+more)
				}
			}
			if len(p.Props) > 0 {
				expectRead(t, version, p.Kind, s+"\x00", api.ErrBad)
			}
		}
	}
}

// P12.2 and P12.3: every byte of a body with every value, with all kinds and both versions.
func TestReadChanged(t *testing.T) {
	for _, s := range bodies {
		for at := range s {
			for b := range 256 {
				changed := s[:at] + string([]byte{byte(b)}) + s[at+1:]
				for kind := 11; kind <= 16; kind++ {
					read(t, 4, kind, changed)
					read(t, 5, kind, changed)
				}
			}
		}
	}
}

// P12.2: all bodies of up to two bytes, and all codes with a short rest.
func TestReadShortBodies(t *testing.T) {
	for _, version := range versions {
		for _, kind := range kinds {
			read(t, version, kind, "")
			for first := range 256 {
				code := string([]byte{byte(first)})
				read(t, version, kind, code)
				for second := range 256 {
					read(t, version, kind, code+string([]byte{byte(second)}))
				}
				for _, rest := range []string{"\x80\x00", "\x00\x00", "\x03\x1f\x00\x00", "\x03\x1f\x00\x00\x00", "\x04\x1f\x00\x01\xff", "\x83\x00\x1f\x00\x00"} {
					read(t, version, kind, code+rest)
				}
			}
		}
	}
}

// P12.2: the errors by hand, and which of them comes first.
func TestReadErrors(t *testing.T) {
	for _, c := range []struct {
		version, kind int
		s             string
		want          api.Errno
	}{
		{3, 12, "x", api.ErrArg},
		{3, 15, "", api.ErrArg},
		{5, 11, "", api.ErrArg},
		{5, 16, "", api.ErrArg},
		{4, 15, "", api.ErrKind},
		{4, 15, "\x18", api.ErrKind},
		{4, 12, "\x00", api.ErrBad},
		{5, 13, "\x00", api.ErrBad},
		{4, 14, "\x00", api.ErrBad},
		{4, 14, "\x04", api.ErrBad},
		{5, 14, "\x00", api.ErrBad}, // longer than necessary
		{5, 15, "\x00", api.ErrBad}, // likewise
		{5, 14, "\x04", api.OK},
		{5, 15, "\x18", api.OK},
		{5, 14, "\x18", api.ErrArg}, // a code of the other kind
		{5, 15, "\x04", api.ErrArg},
		{5, 14, "\x01", api.ErrArg},
		{5, 14, "\x00\x00", api.ErrBad}, // longer than necessary
		{5, 14, "\x04\x00", api.ErrBad}, // likewise
		{5, 14, "\x01\x00", api.ErrBad}, // likewise, ahead of the code
		{5, 14, "\x04\x00\x00", api.ErrBad},
		{5, 14, "\x01\x80", api.ErrShort}, // of the properties, ahead of the code
		{5, 14, "\x04\x80\x00", api.ErrBad},
		{5, 14, "\x04\xff\xff\xff\xff", api.ErrBad},
		{5, 14, "\x04\x04\x1f\x00\x01", api.ErrShort},
		{5, 14, "\x04\x03\x1f\x00\x01r", api.ErrBad},
		{5, 14, "\x01\x02\x01\x01", api.ErrProp},      // of PUBLISH
		{5, 14, "\x04\x04\x15\x00\x01m", api.ErrProp}, // of AUTH
		{5, 15, "\x18\x04\x15\x00\x01m", api.OK},
		{5, 15, "\x18\x04\x16\x00\x01m", api.ErrProp},        // data without a method
		{5, 15, "\x18\x05\x11\x00\x00\x00\x01", api.ErrProp}, // of DISCONNECT
		{5, 14, "\x04\x05\x11\x00\x00\x00\x01", api.OK},
		{5, 14, "\x04\x06\x1f\x00\x00\x1f\x00\x00", api.ErrProp},
		{5, 14, "\x04\x04\x1f\x00\x01\xff", api.ErrText},
		{5, 14, "\x04\x04\x1f\x00\x01\xff\x00", api.ErrText}, // ahead of what follows
		{5, 14, "\x04\x04\x1f\x00\x01r\x00", api.ErrBad},
		{5, 14, "\x01\x04\x1f\x00\x01r\x00", api.ErrBad}, // ahead of the code
		{5, 14, "\x01\x04\x1f\x00\x01r", api.ErrArg},
		{5, 14, "\x00\x04\x1f\x00\x01r", api.OK}, // a code of 0 is necessary ahead of properties
		{5, 15, "\x00\x04\x1f\x00\x01r", api.OK},
	} {
		expectRead(t, c.version, c.kind, c.s, c.want)
	}
}

// P12.2 and P12.3: properties at their greatest.
func TestReadLong(t *testing.T) {
	long := strings.Repeat("x", 65535)
	one := "\x26\x00\x00\x00\x00" // 5 bytes; 1,000 of them are 5,000, which are 88 27
	for _, kind := range []int{14, 15} {
		p := full(5, kind)
		p.Props = slices.Repeat([]api.Prop{{ID: 38, Text: long[:200], Value: long[:100]}}, 1000)
		expect(t, 5, p, api.OK)
		p.Props = []api.Prop{{ID: 38, Text: long, Value: long}, {ID: 31, Text: long}}
		expect(t, 5, p, api.OK)
		expectRead(t, 5, kind, "\x00\x88\x27"+strings.Repeat(one, 1000), api.OK)
		expectRead(t, 5, kind, "\x00\x8d\x27"+strings.Repeat(one, 1001), api.ErrLong)
	}
}

// Rule 3: the properties of a packet that was read are new memory, and another reading is not affected.
func TestReadIsNew(t *testing.T) {
	s, _ := control.Body(5, full(5, 14))
	p, _ := control.Read(5, 14, s)
	room := p.Props[:cap(p.Props)]
	for i := range room {
		room[i] = api.Prop{ID: 99}
	}
	if q, e := control.Read(5, 14, s); e != api.OK || !head.Same(q, full(5, 14)) {
		t.Errorf("%v %d", q, e)
	}
}
