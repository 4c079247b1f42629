package control_test

import (
	"math"
	"reflect"
	"slices"
	"strings"
	"testing"

	"polyglot/api"
	"polyglot/control"
	"polyglot/head"
	"polyglot/prop"
)

var versions = []int{4, 5}

var kinds = []int{12, 13, 14, 15}

// codes are the document's for MQTT 5, by kinds.
var codes = map[int][]int{
	12: {0},
	13: {0},
	14: {0, 4, 128, 129, 130, 131, 135, 137, 139, 141, 142, 143, 144, 147, 148, 149, 150, 151, 152, 153, 154, 155, 156, 157, 158, 159, 160, 161, 162},
	15: {0, 24, 25},
}

// numbers are all small ones, and what would be one of them if it was cut, or its sign lost.
func numbers() []int {
	var l []int
	for n := -300; n <= 600; n++ {
		l = append(l, n)
	}
	for _, n := range []int{0, 1, 4, 5, 12, 13, 14, 15, 24, 128, 255} {
		l = append(l, 1<<16+n, -1<<16+n, 1<<32+n, -1<<32+n, 1<<62+n, math.MinInt+n, math.MaxInt-n)
	}
	return l
}

// has returns whether the packets may have a Code and properties.
func has(version, kind int) bool {
	return version == 5 && (kind == 14 || kind == 15)
}

// full returns a packet with all fields that it may have in the version.
func full(version, kind int) api.Packet {
	p := api.Packet{Kind: kind}
	if has(version, kind) {
		p.Code = codes[kind][1]
		p.Props = []api.Prop{{ID: 38, Text: "k", Value: "v"}, {ID: 31, Text: "r"}, {ID: 38}}
	}
	return p
}

// fullTail is what follows the Code in the body of full, by hand.
const fullTail = "\x10" + "\x26\x00\x01k\x00\x01v" + "\x1f\x00\x01r" + "\x26\x00\x00\x00\x00"

// meantValid is what Valid is to return, by the words of the document.
func meantValid(version int, p api.Packet) api.Errno {
	if version != 4 && version != 5 || p.Kind < 12 || p.Kind > 15 {
		return 2
	}
	if version == 4 && p.Kind == 15 {
		return 8
	}
	if !slices.Contains(codes[p.Kind], p.Code) || !has(version, p.Kind) && (p.Code != 0 || len(p.Props) != 0) {
		return 2
	}
	own := api.Packet{Kind: p.Kind, Code: p.Code, Props: p.Props}
	if !reflect.DeepEqual(p, own) {
		return 2
	}
	return prop.Valid(p.Kind, p.Props)
}

// meantTail is what Tail is to return.
func meantTail(code int, l []api.Prop, kind int) string {
	props, e := prop.Bytes(kind, l)
	if code < 0 || code > 255 || e != api.OK || code == 0 && len(l) == 0 {
		return ""
	}
	if len(l) == 0 {
		props = ""
	}
	return string([]byte{byte(code)}) + props
}

// hold holds Valid and Body against what is meant, and what is read of a body against the packet.
func hold(t *testing.T, version int, p api.Packet) api.Errno {
	t.Helper()
	want := meantValid(version, p)
	if e := control.Valid(version, p); e != want {
		t.Fatalf("Valid(%d, %.400v): %d, not %d", version, p, e, want)
	}
	s, e := control.Body(version, p)
	if e != want || e != api.OK && s != "" || e == api.OK && s != meantTail(p.Code, p.Props, p.Kind) {
		t.Fatalf("Body(%d, %.400v): %.300x %d, not %d", version, p, s, e, want)
	}
	if e != api.OK {
		return e
	}
	if back, e := control.Read(version, p.Kind, s); e != api.OK || !head.Same(back, p) {
		t.Fatalf("Read(%d, %d, %.300x): %.400v %d, not %.400v", version, p.Kind, s, back, e, p)
	}
	return api.OK
}

func expect(t *testing.T, version int, p api.Packet, want api.Errno) {
	t.Helper()
	if e := hold(t, version, p); e != want {
		t.Errorf("Valid(%d, %.400v): %d, not %d", version, p, e, want)
	}
}

// P12.1: there are two versions, and four kinds, of which 3.1.1 has three.
func TestVersionsAndKinds(t *testing.T) {
	for _, n := range numbers() {
		for _, kind := range kinds {
			if n != 4 && n != 5 {
				expect(t, n, api.Packet{Kind: kind}, api.ErrArg)
				expect(t, n, full(5, kind), api.ErrArg)
			}
		}
		for _, version := range versions {
			want := api.ErrArg
			switch {
			case n == 15 && version == 4:
				want = api.ErrKind
			case n >= 12 && n <= 15:
				want = api.OK
			}
			expect(t, version, api.Packet{Kind: n}, want)
		}
	}
	for _, kind := range kinds {
		expect(t, 5, full(5, kind), api.OK)
	}
}

// P12.1: an AUTH of 3.1.1 is of no kind, whatever else is wrong with it; but a version that does not exist comes first.
func TestNoAuth(t *testing.T) {
	for _, p := range filled(full(5, 15)) {
		if p.Kind == 15 {
			expect(t, 4, p, api.ErrKind)
		}
	}
	for _, l := range [][]api.Prop{{{ID: 99}}, {{ID: 31, Text: "\x00"}}, make([]api.Prop, 1001)} {
		expect(t, 4, api.Packet{Kind: 15, Props: l}, api.ErrKind)
		expect(t, 4, api.Packet{Kind: 15, Code: 1, ID: 1, Props: l}, api.ErrKind)
		expect(t, 3, api.Packet{Kind: 15, Props: l}, api.ErrArg)
	}
}

// P12.1: a DISCONNECT of MQTT 5 and an AUTH have the codes of the kind, the others have none.
func TestCodes(t *testing.T) {
	for _, kind := range kinds {
		for _, code := range numbers() {
			want := api.ErrArg
			if slices.Contains(codes[kind], code) {
				want = api.OK
			}
			expect(t, 5, api.Packet{Kind: kind, Code: code}, want)
			if !has(5, kind) {
				want = api.ErrArg
			}
			expect(t, 5, api.Packet{Kind: kind, Code: code, Props: []api.Prop{{ID: 38}}}, want)
			if kind == 15 {
				continue
			}
			if want = api.OK; code != 0 {
				want = api.ErrArg
			}
			expect(t, 4, api.Packet{Kind: kind, Code: code}, want)
		}
	}
}

// filled returns packets that are like p but for one field each that is not zero any more, those of the will among them.
func filled(p api.Packet) map[string]api.Packet {
	all := map[string]api.Packet{}
	fields := reflect.TypeOf(p)
	for i := range fields.NumField() {
		q := p
		if name := fields.Field(i).Name; name == "Will" {
			for j := range reflect.TypeOf(p.Will).NumField() {
				q := p
				fill(reflect.ValueOf(&q.Will).Elem().Field(j))
				all["Will."+reflect.TypeOf(p.Will).Field(j).Name] = q
			}
		} else {
			fill(reflect.ValueOf(&q).Elem().Field(i))
			all[name] = q
		}
	}
	return all
}

func fill(v reflect.Value) {
	switch v.Kind() {
	case reflect.Bool:
		v.SetBool(true)
	case reflect.Int:
		v.SetInt(1)
	case reflect.String:
		v.SetString("x")
	case reflect.Slice:
		v.Set(reflect.MakeSlice(v.Type(), 1, 1))
	}
}

// P12.1: fields that the packets do not have are zero, whichever they are; they come ahead of the properties.
func TestOtherFields(t *testing.T) {
	for _, version := range versions {
		for _, kind := range kinds {
			if version == 4 && kind == 15 {
				continue
			}
			own := []string{"Kind"}
			if has(version, kind) {
				own = []string{"Kind", "Code", "Props"}
			}
			for name, p := range filled(full(version, kind)) {
				if slices.Contains(own, name) {
					continue
				}
				expect(t, version, p, api.ErrArg)
				p.Props = []api.Prop{{ID: 99}}
				expect(t, version, p, api.ErrArg)
			}
		}
	}
}

// P12.1: properties where there are none are a field that should be zero, whatever they are.
func TestNoProps(t *testing.T) {
	for _, l := range [][]api.Prop{{{ID: 38}}, {{ID: 31, Text: "r"}}, {{ID: 99}}, make([]api.Prop, 1001)} {
		for _, kind := range []int{12, 13, 14} {
			expect(t, 4, api.Packet{Kind: kind, Props: l}, api.ErrArg)
		}
		for _, kind := range []int{12, 13} {
			expect(t, 5, api.Packet{Kind: kind, Props: l}, api.ErrArg)
		}
	}
}

// Rule 4: lists that are empty, but not nil, are not set.
func TestEmptyLists(t *testing.T) {
	for _, version := range versions {
		for _, kind := range kinds {
			want := api.OK
			if version == 4 && kind == 15 {
				want = api.ErrKind
			}
			p := api.Packet{Kind: kind}
			p.Codes, p.Filters, p.Props, p.Will.Props = []int{7}[:0], []api.Filter{{Topic: "x"}}[:0], []api.Prop{{ID: 99}}[:0], []api.Prop{{ID: 99}}[:0]
			if s, e := control.Body(version, p); s != "" || e != want {
				t.Errorf("%d %d: %x %d", version, kind, s, e)
			}
			if s := control.Tail(4, p.Props, kind); s != "\x04" {
				t.Errorf("%d: %x", kind, s)
			}
		}
	}
}

// listCase is a list of properties, and what is wrong with it.
type listCase struct {
	l    []api.Prop
	want api.Errno
}

// lists are those of a DISCONNECT and of an AUTH alike.
func lists() []listCase {
	many := slices.Repeat([]api.Prop{{ID: 38}}, 1001)
	return []listCase{
		{[]api.Prop{{ID: 31, Text: "r"}}, api.OK},
		{[]api.Prop{{ID: 31}, {ID: 38}, {ID: 38}}, api.OK},
		{[]api.Prop{{ID: 31}, {ID: 31}}, api.ErrProp},
		{[]api.Prop{{ID: 1}}, api.ErrProp}, // of PUBLISH
		{[]api.Prop{{ID: 0}}, api.ErrProp},
		{[]api.Prop{{ID: 31, N: 1}}, api.ErrArg},
		{[]api.Prop{{ID: 31, Value: "x"}}, api.ErrArg},
		{[]api.Prop{{ID: 31, Text: "\x00"}}, api.ErrText},
		{[]api.Prop{{ID: 38, Value: "\xff"}}, api.ErrText},
		{[]api.Prop{{ID: 38, Text: strings.Repeat("x", 65535), Value: strings.Repeat("y", 65535)}}, api.OK},
		{[]api.Prop{{ID: 38, Text: strings.Repeat("x", 65536)}}, api.ErrText},
		{many[:1000], api.OK},
		{many, api.ErrLong},
	}
}

// P12.1: the errors of the properties come last.
func TestProps(t *testing.T) {
	for _, c := range lists() {
		for _, kind := range []int{14, 15} {
			for _, code := range codes[kind] {
				p := api.Packet{Kind: kind, Code: code, Props: c.l}
				expect(t, 5, p, c.want)
				p.Code = 1
				expect(t, 5, p, api.ErrArg)
				p.Code, p.ID = code, 1
				expect(t, 5, p, api.ErrArg)
			}
		}
	}
}

// P12.1: each kind has properties of its own.
func TestPropsOfKinds(t *testing.T) {
	for _, c := range []struct {
		l          []api.Prop
		disconnect api.Errno
		auth       api.Errno
	}{
		{[]api.Prop{{ID: 17, N: 1}}, api.OK, api.ErrProp},
		{[]api.Prop{{ID: 28, Text: "s"}}, api.OK, api.ErrProp},
		{[]api.Prop{{ID: 21, Text: "m"}}, api.ErrProp, api.OK},
		{[]api.Prop{{ID: 22, Text: "\xff"}, {ID: 21, Text: "m"}}, api.ErrProp, api.OK},
		{[]api.Prop{{ID: 22, Text: "\xff"}}, api.ErrProp, api.ErrProp},
	} {
		expect(t, 5, api.Packet{Kind: 14, Props: c.l}, c.disconnect)
		expect(t, 5, api.Packet{Kind: 15, Props: c.l}, c.auth)
	}
}

// P12.1, T7: whatever the properties are, the error is that of package prop.
func TestPropsAreThoseOfProp(t *testing.T) {
	for _, id := range numbers() {
		for _, n := range []uint32{0, 1, 65536, math.MaxUint32} {
			for _, text := range []string{"", "a", "\xff"} {
				for _, kind := range []int{14, 15} {
					p := full(5, kind)
					p.Props = []api.Prop{{ID: id, N: n, Text: text}}
					expect(t, 5, p, prop.Valid(kind, p.Props))
				}
			}
		}
	}
}

// P12.1: known bodies, no longer than necessary.
func TestBody(t *testing.T) {
	for _, c := range []struct {
		version int
		p       api.Packet
		want    string
	}{
		{4, api.Packet{Kind: 12}, ""},
		{4, api.Packet{Kind: 13}, ""},
		{4, api.Packet{Kind: 14}, ""},
		{5, api.Packet{Kind: 12}, ""},
		{5, api.Packet{Kind: 13}, ""},
		{5, api.Packet{Kind: 14}, ""},
		{5, api.Packet{Kind: 15}, ""},
		{5, api.Packet{Kind: 14, Code: 4}, "\x04"},
		{5, api.Packet{Kind: 14, Code: 162}, "\xa2"},
		{5, api.Packet{Kind: 15, Code: 25}, "\x19"},
		{5, api.Packet{Kind: 14, Props: []api.Prop{{ID: 31}}}, "\x00\x03\x1f\x00\x00"},
		{5, api.Packet{Kind: 14, Code: 128, Props: []api.Prop{{ID: 17, N: 258}}}, "\x80\x05\x11\x00\x00\x01\x02"},
		{5, api.Packet{Kind: 15, Code: 24, Props: []api.Prop{{ID: 21, Text: "m"}}}, "\x18\x04\x15\x00\x01m"},
		{5, full(5, 14), "\x04" + fullTail},
		{5, full(5, 15), "\x18" + fullTail},
	} {
		if s, e := control.Body(c.version, c.p); s != c.want || e != api.OK {
			t.Errorf("Body(%d, %v): %x %d, not %x", c.version, c.p, s, e, c.want)
		}
	}
}

// P12.1: a tail has a code of a byte, whether or not the kind may have it, and properties that the kind may have.
func TestTail(t *testing.T) {
	for _, c := range []struct {
		code int
		l    []api.Prop
		kind int
		want string
	}{
		{0, nil, 14, ""},
		{4, nil, 14, "\x04"},
		{24, nil, 15, "\x18"},
		{1, nil, 14, "\x01"}, // not one of its codes
		{255, nil, 15, "\xff"},
		{256, nil, 14, ""},
		{260, []api.Prop{{ID: 31}}, 14, ""},
		{-1, nil, 14, ""},
		{-1, []api.Prop{{ID: 31}}, 14, ""},
		{0, []api.Prop{{ID: 31}}, 14, "\x00\x03\x1f\x00\x00"},
		{255, []api.Prop{{ID: 31}}, 15, "\xff\x03\x1f\x00\x00"},
		{4, []api.Prop{{ID: 17}}, 14, "\x04\x05\x11\x00\x00\x00\x00"},
		{4, []api.Prop{{ID: 17}}, 15, ""}, // of DISCONNECT
		{4, []api.Prop{{ID: 38}, {ID: 1}}, 14, ""},
		{4, []api.Prop{{ID: 31}}, 12, ""},
		{16, []api.Prop{{ID: 31, Text: "r"}}, 4, "\x10\x04\x1f\x00\x01r"}, // of PUBACK
		{4, full(5, 14).Props, 14, "\x04" + fullTail},
	} {
		if s := control.Tail(c.code, c.l, c.kind); s != c.want {
			t.Errorf("Tail(%d, %v, %d): %x, not %x", c.code, c.l, c.kind, s, c.want)
		}
	}
}

// P12.1, T7: tails of any codes and kinds.
func TestTails(t *testing.T) {
	some := [][]api.Prop{nil, {{ID: 31, Text: "r"}}, {{ID: 38}, {ID: 38}}, {{ID: 31}, {ID: 31}}, {{ID: 31, N: 1}}, {{ID: 99}}}
	for _, n := range numbers() {
		for _, l := range some {
			for _, kind := range kinds {
				if s, want := control.Tail(n, l, kind), meantTail(n, l, kind); s != want {
					t.Fatalf("Tail(%d, %v, %d): %x, not %x", n, l, kind, s, want)
				}
			}
			for _, code := range []int{-1, 0, 4, 255, 256} {
				if s, want := control.Tail(code, l, n), meantTail(code, l, n); s != want {
					t.Fatalf("Tail(%d, %v, %d): %x, not %x", code, l, n, s, want)
				}
			}
		}
	}
	for _, c := range lists() {
		for _, kind := range kinds {
			s, want := control.Tail(4, c.l, kind), meantTail(4, c.l, kind)
			if s != want || has(5, kind) && (s != "") != (c.want == api.OK) {
				t.Fatalf("Tail(4, %.400v, %d): %.300x", c.l, kind, s)
			}
		}
	}
}

// Rule 3: an argument is not changed, nor what lies behind it.
func TestArgumentsStay(t *testing.T) {
	roomy := append(make([]api.Prop, 0, 8), api.Prop{ID: 31, Text: "r"}, api.Prop{ID: 38, Text: "k"})
	p := api.Packet{Kind: 14, Code: 4, Props: roomy}
	control.Valid(5, p)
	control.Body(5, p)
	control.Tail(4, roomy, 14)
	if want := []api.Prop{{ID: 31, Text: "r"}, {ID: 38, Text: "k"}}; !slices.Equal(roomy, want) {
		t.Errorf("%+v", roomy)
	}
	for _, spare := range roomy[len(roomy):cap(roomy)] {
		if spare != (api.Prop{}) {
			t.Errorf("%+v", spare)
		}
	}
}
