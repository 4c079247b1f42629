package head_test

import (
	"math"
	"strings"
	"testing"

	"polyglot/api"
	"polyglot/head"
)

// table is the document's: the numbers of the kinds by their names, with the flags of each.
var table = []struct {
	kind  int
	name  string
	flags []int
}{
	{1, "connect", []int{0}},
	{2, "connack", []int{0}},
	{3, "publish", []int{0, 1, 2, 3, 4, 5, 10, 11, 12, 13}},
	{4, "puback", []int{0}},
	{5, "pubrec", []int{0}},
	{6, "pubrel", []int{2}},
	{7, "pubcomp", []int{0}},
	{8, "subscribe", []int{2}},
	{9, "suback", []int{0}},
	{10, "unsubscribe", []int{2}},
	{11, "unsuback", []int{0}},
	{12, "pingreq", []int{0}},
	{13, "pingresp", []int{0}},
	{14, "disconnect", []int{0}},
	{15, "auth", []int{0}},
}

// lengths are the edges of variable byte integers, with their bytes.
var lengths = []struct {
	n     int
	bytes string
}{
	{0, "\x00"},
	{1, "\x01"},
	{2, "\x02"},
	{127, "\x7f"},
	{128, "\x80\x01"},
	{200, "\xc8\x01"},
	{255, "\xff\x01"},
	{16_383, "\xff\x7f"},
	{16_384, "\x80\x80\x01"},
	{2_097_151, "\xff\xff\x7f"},
	{2_097_152, "\x80\x80\x80\x01"},
	{268_435_455, "\xff\xff\xff\x7f"},
}

// numbers are all small ones, and what would be one of them if it was cut, or its sign lost.
func numbers() []int {
	var l []int
	for n := -40; n <= 300; n++ {
		l = append(l, n)
	}
	for _, n := range []int{0, 1, 2, 3, 4, 5, 6, 8, 10, 15, 16, 48} {
		l = append(l, 1<<8+n, 1<<16+n, 1<<32+n, 1<<62+n, math.MinInt+n, math.MaxInt-n, -1<<8+n, -1<<32+n)
	}
	return l
}

// last returns the last kind of a version; 0 if there is no such version.
func last(version int) int {
	return map[int]int{4: 14, 5: 15}[version]
}

// flagsOf returns whether a version has a kind, and which flags.
func flagsOf(version, kind int) (flags map[int]bool, is bool) {
	for _, row := range table {
		if row.kind == kind && kind <= last(version) {
			flags = map[int]bool{}
			for _, n := range row.flags {
				flags[n] = true
			}
			return flags, true
		}
	}
	return nil, false
}

// meant returns what is wrong with a header, by the document.
func meant(version int, h api.Head) api.Errno {
	flags, is := flagsOf(version, h.Kind)
	switch {
	case last(version) == 0:
		return 2
	case !is:
		return 8
	case !flags[h.Flags]:
		return 7
	case h.Length < 0 || h.Length > 268_435_455:
		return 2
	}
	return 0
}

func check(t *testing.T, version int, h api.Head) {
	t.Helper()
	want := meant(version, h)
	if e := head.Check(version, h); e != want {
		t.Fatalf("Check(%d, %+v): %d, not %d", version, h, e, want)
	}
	s, e := head.Bytes(version, h)
	if e != want || (e != api.OK) != (s == "") {
		t.Fatalf("Bytes(%d, %+v): %q %d, not %d", version, h, s, e, want)
	}
}

// P7.1: all kinds with all flags, of both versions; and what is no kind, or no flags.
func TestCheckKindsAndFlags(t *testing.T) {
	for _, version := range []int{4, 5} {
		for _, kind := range numbers() {
			for _, flags := range numbers() {
				check(t, version, api.Head{Kind: kind, Flags: flags})
			}
		}
	}
}

// P7.1: the lengths at both edges and beyond them.
func TestCheckLengths(t *testing.T) {
	for _, version := range []int{4, 5} {
		for kind := range 17 {
			for _, length := range []int{math.MinInt, -1 << 32, -268_435_455, -1, 0, 1, 268_435_454, 268_435_455, 268_435_456, 1<<31 - 1, 1 << 31, 1 << 32, 1<<32 + 1, math.MaxInt} {
				for flags := range 17 {
					check(t, version, api.Head{Kind: kind, Flags: flags, Length: length})
				}
			}
		}
	}
}

// P7.1: no other versions.
func TestCheckVersions(t *testing.T) {
	for _, version := range numbers() {
		check(t, version, api.Head{Kind: 12})
		check(t, version, api.Head{Kind: 15})
		check(t, version, api.Head{Kind: 16, Flags: 1, Length: -1})
	}
}

// P7.1: the first error counts, in the order of the document.
func TestCheckOrder(t *testing.T) {
	for _, x := range []struct {
		version int
		h       api.Head
		e       api.Errno
	}{
		{3, api.Head{Kind: 0, Flags: 1, Length: -1}, api.ErrArg},
		{4, api.Head{Kind: 0, Flags: 1, Length: -1}, api.ErrKind},
		{4, api.Head{Kind: 15, Flags: 1, Length: -1}, api.ErrKind},
		{5, api.Head{Kind: 15, Flags: 1, Length: -1}, api.ErrFlags},
		{5, api.Head{Kind: 15, Flags: 0, Length: -1}, api.ErrArg},
		{5, api.Head{Kind: 15}, api.OK},
		{4, api.Head{Kind: 3, Flags: 8}, api.ErrFlags},
		{4, api.Head{Kind: 3, Flags: 9}, api.ErrFlags},
		{4, api.Head{Kind: 3, Flags: 6}, api.ErrFlags},
		{4, api.Head{Kind: 3, Flags: 14}, api.ErrFlags},
		{4, api.Head{Kind: 3, Flags: 13}, api.OK},
		{4, api.Head{Kind: 6}, api.ErrFlags},
	} {
		if e := head.Check(x.version, x.h); e != x.e {
			t.Errorf("Check(%d, %+v): %d, not %d", x.version, x.h, e, x.e)
		}
	}
}

// meantFlags returns the flags of a packet, by the document.
func meantFlags(version int, p api.Packet) (int, api.Errno) {
	flags, is := flagsOf(version, p.Kind)
	if last(version) == 0 {
		return 0, 2
	}
	if !is {
		return 0, 8
	}
	if p.Kind != 3 {
		for n := range flags { // there is only one
			return n, 0
		}
	}
	if p.QoS < 0 || p.QoS > 2 || p.Dup && p.QoS == 0 {
		return 0, 7
	}
	n := 2 * p.QoS
	if p.Dup {
		n += 8
	}
	if p.Retain {
		n++
	}
	return n, 0
}

// P7.1: the flags of packets of all kinds and all QoS; the other fields don't matter.
func TestFlags(t *testing.T) {
	for _, version := range []int{-1, 0, 3, 4, 5, 6, 1<<32 + 4} {
		for _, kind := range numbers() {
			for _, qos := range []int{math.MinInt, -2, -1, 0, 1, 2, 3, 4, 8, 1 << 8, 1<<32 + 1, 1 << 62, math.MaxInt} {
				for bits := range 4 {
					p := api.Packet{Kind: kind, QoS: qos, Dup: bits&1 != 0, Retain: bits&2 != 0}
					checkFlags(t, version, p)
					p.ID, p.Topic, p.HasWill, p.Will, p.Code = -1, "#", true, api.Will{QoS: 9, Retain: true}, 999
					p.Codes, p.Filters, p.Props = []int{-1}, []api.Filter{{QoS: 7}}, []api.Prop{{ID: -1}}
					checkFlags(t, version, p)
				}
			}
		}
	}
}

func checkFlags(t *testing.T, version int, p api.Packet) {
	t.Helper()
	want, wantE := meantFlags(version, p)
	if n, e := head.Flags(version, p); n != want || e != wantE {
		t.Fatalf("Flags(%d, %+v): %d %d, not %d %d", version, p, n, e, want, wantE)
	}
}

// P7.1: the flags of a packet make a valid header, and each valid header of a PUBLISH has the flags of one.
func TestFlagsAreValid(t *testing.T) {
	seen := map[int]bool{}
	for qos := range 3 {
		for bits := range 4 {
			n, e := head.Flags(api.V5, api.Packet{Kind: api.Publish, QoS: qos, Dup: bits&1 != 0, Retain: bits&2 != 0})
			if e == api.OK {
				seen[n] = true
			}
		}
	}
	for flags := range 16 {
		e := head.Check(api.V5, api.Head{Kind: api.Publish, Flags: flags})
		if (e == api.OK) != seen[flags] {
			t.Errorf("flags %d: %d, %v", flags, e, seen[flags])
		}
	}
}

// P7.1: the bytes themselves, the document's example among them.
func TestBytes(t *testing.T) {
	for _, x := range []struct {
		h api.Head
		s string
	}{
		{api.Head{Kind: api.Publish, Flags: 2, Length: 200}, "\x32\xc8\x01"},
		{api.Head{Kind: api.Publish, Flags: 13, Length: 0}, "\x3d\x00"},
		{api.Head{Kind: api.Connect, Length: 12}, "\x10\x0c"},
		{api.Head{Kind: api.Subscribe, Flags: 2, Length: 16_384}, "\x82\x80\x80\x01"},
		{api.Head{Kind: api.Disconnect, Length: 268_435_455}, "\xe0\xff\xff\xff\x7f"},
		{api.Head{Kind: api.Pingreq}, "\xc0\x00"},
	} {
		for _, version := range []int{4, 5} {
			if s, e := head.Bytes(version, x.h); s != x.s || e != api.OK {
				t.Errorf("Bytes(%d, %+v): %x %d, not %x", version, x.h, s, e, x.s)
			}
		}
	}
	if s, e := head.Bytes(5, api.Head{Kind: api.Auth}); s != "\xf0\x00" || e != api.OK {
		t.Errorf("%x %d", s, e)
	}
}

// P7.2: every first byte, with every kind of length after it, and with anything after that.
func TestRead(t *testing.T) {
	rests := map[string]api.Errno{ // of lengths that are not there, or not as they should be
		"":                     api.ErrShort,
		"\x80":                 api.ErrShort,
		"\xff\xff":             api.ErrShort,
		"\x80\x80\x80":         api.ErrShort,
		"\x80\x00":             api.ErrBad,
		"\xff\x80\x00x":        api.ErrBad,
		"\x80\x80\x80\x00":     api.ErrBad,
		"\x80\x80\x80\x80":     api.ErrBad,
		"\xff\xff\xff\xff\x01": api.ErrBad,
	}
	for _, version := range []int{-4, 0, 3, 4, 5, 6, 1<<32 + 5} {
		for first := range 256 {
			h := api.Head{Kind: first >> 4, Flags: first & 15}
			for _, length := range lengths {
				h.Length = length.n
				for _, rest := range []string{"", "\x00", "\xff", "what follows"} {
					checkRead(t, version, string([]byte{byte(first)})+length.bytes+rest, h, 1+len(length.bytes), meant(version, h))
				}
			}
			h.Length = 0
			for rest, e := range rests {
				if early := meant(version, h); early != api.OK {
					e = early
				}
				checkRead(t, version, string([]byte{byte(first)})+rest, api.Head{}, 0, e)
			}
		}
	}
}

// checkRead wants h and size only where there is no error.
func checkRead(t *testing.T, version int, s string, h api.Head, size int, e api.Errno) {
	t.Helper()
	if e != api.OK {
		h, size = api.Head{}, 0
	}
	if gotH, gotSize, gotE := head.Read(version, s); gotH != h || gotSize != size || gotE != e {
		t.Fatalf("Read(%d, %x): %+v %d %d, not %+v %d %d", version, s, gotH, gotSize, gotE, h, size, e)
	}
}

// P7.2: no bytes; the version is examined before them.
func TestReadNothing(t *testing.T) {
	for _, version := range numbers() {
		e := api.ErrShort
		if last(version) == 0 {
			e = api.ErrArg
		}
		checkRead(t, version, "", api.Head{}, 0, e)
	}
}

// P7.3: the names of all kinds, and of what is none.
func TestName(t *testing.T) {
	names := map[int]string{}
	for _, row := range table {
		names[row.kind] = row.name
	}
	for _, kind := range numbers() {
		want, is := names[kind]
		if !is {
			want = "?"
		}
		if got := head.Name(kind); got != want {
			t.Errorf("Name(%d): %q, not %q", kind, got, want)
		}
	}
}

// valid returns all headers of a version that are valid, with lengths at the edges.
func valid(version int) []api.Head {
	var l []api.Head
	for _, row := range table {
		for _, flags := range row.flags {
			for _, length := range lengths {
				if row.kind <= last(version) {
					l = append(l, api.Head{Kind: row.kind, Flags: flags, Length: length.n})
				}
			}
		}
	}
	return l
}

// P7.4: what was written is read.
func TestThereAndBack(t *testing.T) {
	for _, version := range []int{4, 5} {
		for _, h := range valid(version) {
			s, e := head.Bytes(version, h)
			if e != api.OK {
				t.Fatalf("%d %+v: %d", version, h, e)
			}
			checkRead(t, version, s, h, len(s), api.OK)
			checkRead(t, version, s+"more", h, len(s), api.OK)
		}
	}
	for n := range 70_000 { // lengths one by one
		h := api.Head{Kind: api.Publish, Flags: 11, Length: n * 3_834}
		s, e := head.Bytes(api.V311, h)
		if got, size, readE := head.Read(api.V311, s); e != api.OK || got != h || size != len(s) || readE != api.OK {
			t.Fatalf("%+v: %x %d; %+v %d %d", h, s, e, got, size, readE)
		}
	}
}

// P7.4: the bytes of no header are a prefix of another one's; a part of them is not a header.
func TestNoPrefix(t *testing.T) {
	for _, version := range []int{4, 5} {
		var all []string
		for _, h := range valid(version) {
			s, _ := head.Bytes(version, h)
			for cut := range s {
				checkRead(t, version, s[:cut], api.Head{}, 0, api.ErrShort)
			}
			all = append(all, s)
		}
		for i, a := range all {
			for j, b := range all {
				if i != j && strings.HasPrefix(a, b) {
					t.Fatalf("%x begins with %x", a, b)
				}
			}
		}
	}
}
