package ack_test

import (
	"math"
	"reflect"
	"slices"
	"strings"
	"testing"

	"polyglot/ack"
	"polyglot/api"
	"polyglot/head"
	"polyglot/prop"
)

var versions = []int{4, 5}

var kinds = []int{4, 5, 6, 7}

// codes are the document's, by kinds.
var codes = map[int][]int{
	4: {0, 16, 128, 131, 135, 144, 145, 151, 153},
	5: {0, 16, 128, 131, 135, 144, 145, 151, 153},
	6: {0, 146},
	7: {0, 146},
}

// numbers are all small ones, and what would be one of them if it was cut, or its sign lost.
func numbers() []int {
	var l []int
	for n := -300; n <= 600; n++ {
		l = append(l, n)
	}
	for _, n := range []int{0, 1, 4, 5, 6, 7, 16, 128, 146} {
		l = append(l, 1<<16+n, -1<<16+n, 1<<32+n, -1<<32+n, 1<<62+n, math.MinInt+n, math.MaxInt-n)
	}
	return l
}

// full returns a packet with all fields that it may have in the version.
func full(version, kind int) api.Packet {
	p := api.Packet{Kind: kind, ID: 0x1234}
	if version == 5 {
		p.Code = codes[kind][1]
		p.Props = []api.Prop{{ID: 38, Text: "k", Value: "v"}, {ID: 31, Text: "r"}, {ID: 38}}
	}
	return p
}

// fullTail is what follows the ID and the Code in the body of full, by hand.
const fullTail = "\x10" + "\x26\x00\x01k\x00\x01v" + "\x1f\x00\x01r" + "\x26\x00\x00\x00\x00"

// meantValid is what Valid is to return, by the words of the document.
func meantValid(version int, p api.Packet) api.Errno {
	if version != 4 && version != 5 || p.Kind < 4 || p.Kind > 7 || p.ID < 1 || p.ID > 65535 {
		return 2
	}
	if version == 4 && (p.Code != 0 || len(p.Props) != 0) || !slices.Contains(codes[p.Kind], p.Code) {
		return 2
	}
	own := api.Packet{Kind: p.Kind, ID: p.ID, Code: p.Code, Props: p.Props}
	if !reflect.DeepEqual(p, own) {
		return 2
	}
	return prop.Valid(p.Kind, p.Props)
}

// meantBody is the body of a valid packet.
func meantBody(p api.Packet) string {
	bytes := []byte{byte(p.ID / 256), byte(p.ID % 256)}
	if p.Code != 0 || len(p.Props) != 0 {
		bytes = append(bytes, byte(p.Code))
	}
	if len(p.Props) != 0 {
		props, _ := prop.Bytes(p.Kind, p.Props)
		bytes = append(bytes, props...)
	}
	return string(bytes)
}

// hold holds Valid and Body against what is meant, and what is read of a body against the packet.
func hold(t *testing.T, version int, p api.Packet) api.Errno {
	t.Helper()
	want := meantValid(version, p)
	if e := ack.Valid(version, p); e != want {
		t.Fatalf("Valid(%d, %.400v): %d, not %d", version, p, e, want)
	}
	s, e := ack.Body(version, p)
	if e != want || e != api.OK && s != "" || e == api.OK && s != meantBody(p) {
		t.Fatalf("Body(%d, %.400v): %.300x %d, not %d", version, p, s, e, want)
	}
	if e != api.OK {
		return e
	}
	if back, e := ack.Read(version, p.Kind, s); e != api.OK || !head.Same(back, p) {
		t.Fatalf("Read(%d, %d, %.300x): %.400v %d, not %.400v", version, p.Kind, s, back, e, p)
	}
	return api.OK
}

func expect(t *testing.T, version int, p api.Packet, want api.Errno) {
	t.Helper()
	if e := hold(t, version, p); e != want {
		t.Errorf("Valid(%d, %.400v): %d, not %d", version, p, e, want)
	}
}

// P10.1: there are two versions, and four kinds.
func TestVersionsAndKinds(t *testing.T) {
	for _, n := range numbers() {
		for _, kind := range kinds {
			if n != 4 && n != 5 {
				expect(t, n, api.Packet{Kind: kind, ID: 1}, api.ErrArg)
				expect(t, n, full(5, kind), api.ErrArg)
			}
		}
		for _, version := range versions {
			want := api.ErrArg
			if n >= 4 && n <= 7 {
				want = api.OK
			}
			expect(t, version, api.Packet{Kind: n, ID: 1}, want)
		}
	}
	for _, kind := range kinds {
		expect(t, 4, full(4, kind), api.OK)
		expect(t, 5, full(5, kind), api.OK)
	}
}

// P10.1: an ID is from 1 to 65,535.
func TestIDs(t *testing.T) {
	for _, kind := range kinds {
		for id := -2; id <= 65538; id++ {
			want := api.ErrArg
			if id >= 1 && id <= 65535 {
				want = api.OK
			}
			for _, version := range versions {
				if e := ack.Valid(version, api.Packet{Kind: kind, ID: id}); e != want {
					t.Fatalf("Valid(%d, kind %d, ID %d): %d", version, kind, id, e)
				}
			}
		}
		for _, id := range append(numbers(), 32767, 32768, 65534, 65535, 65536) {
			for _, version := range versions {
				p := full(version, kind)
				p.ID = id
				hold(t, version, p)
			}
		}
	}
}

// P10.1: MQTT 5 has the codes of the kind, 3.1.1 has none.
func TestCodes(t *testing.T) {
	for _, kind := range kinds {
		for _, code := range numbers() {
			want := api.ErrArg
			if slices.Contains(codes[kind], code) {
				want = api.OK
			}
			expect(t, 5, api.Packet{Kind: kind, ID: 1, Code: code}, want)
			expect(t, 5, api.Packet{Kind: kind, ID: 1, Code: code, Props: []api.Prop{{ID: 38}}}, want)
			if code != 0 {
				want = api.ErrArg
			}
			expect(t, 4, api.Packet{Kind: kind, ID: 1, Code: code}, want)
		}
	}
}

// filled returns packets that are like p but for one field each that is not zero any more, those of the will among them.
func filled(p api.Packet) map[string]api.Packet {
	all := map[string]api.Packet{}
	fields := reflect.TypeOf(p)
	for i := range fields.NumField() {
		q := p
		if name := fields.Field(i).Name; name == "Will" {
			for j := range reflect.TypeOf(p.Will).NumField() {
				q := p
				fill(reflect.ValueOf(&q.Will).Elem().Field(j))
				all["Will."+reflect.TypeOf(p.Will).Field(j).Name] = q
			}
		} else {
			fill(reflect.ValueOf(&q).Elem().Field(i))
			all[name] = q
		}
	}
	return all
}

func fill(v reflect.Value) {
	switch v.Kind() {
	case reflect.Bool:
		v.SetBool(true)
	case reflect.Int:
		v.SetInt(1)
	case reflect.String:
		v.SetString("x")
	case reflect.Slice:
		v.Set(reflect.MakeSlice(v.Type(), 1, 1))
	}
}

// P10.1: fields that the packets do not have are zero, whichever they are; they come ahead of the properties.
func TestOtherFields(t *testing.T) {
	own := map[int][]string{4: {"Kind", "ID"}, 5: {"Kind", "ID", "Code", "Props"}}
	for _, version := range versions {
		for _, kind := range kinds {
			for name, p := range filled(full(version, kind)) {
				if slices.Contains(own[version], name) {
					continue
				}
				expect(t, version, p, api.ErrArg)
				p.Props = []api.Prop{{ID: 99}}
				expect(t, version, p, api.ErrArg)
			}
		}
	}
	for _, kind := range kinds {
		for _, l := range [][]api.Prop{{{ID: 38}}, {{ID: 31, Text: "r"}}, {{ID: 99}}, make([]api.Prop, 1001)} {
			expect(t, 4, api.Packet{Kind: kind, ID: 1, Props: l}, api.ErrArg)
		}
	}
}

// Rule 4: lists that are empty, but not nil, are not set.
func TestEmptyLists(t *testing.T) {
	for _, version := range versions {
		for _, kind := range kinds {
			p := api.Packet{Kind: kind, ID: 7}
			p.Codes, p.Filters, p.Props, p.Will.Props = []int{7}[:0], []api.Filter{{Topic: "x"}}[:0], []api.Prop{{ID: 99}}[:0], []api.Prop{{ID: 99}}[:0]
			if s, e := ack.Body(version, p); s != "\x00\x07" || e != api.OK {
				t.Errorf("%d %d: %x %d", version, kind, s, e)
			}
		}
	}
}

// P10.1: the errors of the properties come last.
func TestProps(t *testing.T) {
	many := slices.Repeat([]api.Prop{{ID: 38}}, 1001)
	for _, c := range []struct {
		l    []api.Prop
		want api.Errno
	}{
		{[]api.Prop{{ID: 31, Text: "r"}}, api.OK},
		{[]api.Prop{{ID: 31}, {ID: 38}, {ID: 38}}, api.OK},
		{[]api.Prop{{ID: 31}, {ID: 31}}, api.ErrProp},
		{[]api.Prop{{ID: 1}}, api.ErrProp}, // of PUBLISH
		{[]api.Prop{{ID: 0}}, api.ErrProp},
		{[]api.Prop{{ID: 31, N: 1}}, api.ErrArg},
		{[]api.Prop{{ID: 31, Value: "x"}}, api.ErrArg},
		{[]api.Prop{{ID: 31, Text: "\x00"}}, api.ErrText},
		{[]api.Prop{{ID: 38, Value: "\xff"}}, api.ErrText},
		{[]api.Prop{{ID: 38, Text: strings.Repeat("x", 65535), Value: strings.Repeat("y", 65535)}}, api.OK},
		{[]api.Prop{{ID: 38, Text: strings.Repeat("x", 65536)}}, api.ErrText},
		{many[:1000], api.OK},
		{many, api.ErrLong},
	} {
		for _, kind := range kinds {
			for _, code := range codes[kind] {
				p := api.Packet{Kind: kind, ID: 65535, Code: code, Props: c.l}
				expect(t, 5, p, c.want)
				p.Code = 1
				expect(t, 5, p, api.ErrArg)
				p.Code, p.ID = code, 0
				expect(t, 5, p, api.ErrArg)
			}
		}
	}
}

// P10.1, T7: whatever the properties are, the error is that of package prop.
func TestPropsAreThoseOfProp(t *testing.T) {
	for _, id := range numbers() {
		for _, n := range []uint32{0, 1, 65536, math.MaxUint32} {
			for _, text := range []string{"", "a", "\xff"} {
				for _, kind := range kinds {
					p := full(5, kind)
					p.Props = []api.Prop{{ID: id, N: n, Text: text}}
					expect(t, 5, p, prop.Valid(kind, p.Props))
				}
			}
		}
	}
}

// P10.1: known bodies, no longer than necessary.
func TestBody(t *testing.T) {
	for _, kind := range kinds {
		want := "\x12\x34" + string([]byte{byte(codes[kind][1])}) + fullTail
		if s, e := ack.Body(5, full(5, kind)); s != want || e != api.OK {
			t.Errorf("%d: %x %d", kind, s, e)
		}
		if s, e := ack.Body(4, full(4, kind)); s != "\x12\x34" || e != api.OK {
			t.Errorf("%d: %x %d", kind, s, e)
		}
	}
	for _, c := range []struct {
		version int
		p       api.Packet
		want    string
	}{
		{5, api.Packet{Kind: 4, ID: 7}, "\x00\x07"},
		{5, api.Packet{Kind: 4, ID: 7, Code: 16}, "\x00\x07\x10"},
		{5, api.Packet{Kind: 6, ID: 65535, Code: 146}, "\xff\xff\x92"},
		{5, api.Packet{Kind: 5, ID: 256, Props: []api.Prop{{ID: 31}}}, "\x01\x00\x00\x03\x1f\x00\x00"},
		{5, api.Packet{Kind: 7, ID: 1, Code: 146, Props: []api.Prop{{ID: 31, Text: "r"}}}, "\x00\x01\x92\x04\x1f\x00\x01r"},
		{4, api.Packet{Kind: 4, ID: 7}, "\x00\x07"},
		{4, api.Packet{Kind: 7, ID: 0xfffe}, "\xff\xfe"},
	} {
		if s, e := ack.Body(c.version, c.p); s != c.want || e != api.OK {
			t.Errorf("Body(%d, %v): %x %d, not %x", c.version, c.p, s, e, c.want)
		}
	}
}

// meantNext is what Next is to return, by the words of the document.
func meantNext(p api.Packet) (api.Packet, bool) {
	if p.Kind == 5 && p.Code < 128 {
		return api.Packet{Kind: 6, ID: p.ID}, true
	}
	if p.Kind == 6 {
		return api.Packet{Kind: 7, ID: p.ID}, true
	}
	return api.Packet{}, false
}

// P10.1: a PUBREC without a fault is answered, and any PUBREL; the answer has nothing but the ID.
func TestNext(t *testing.T) {
	for _, kind := range numbers() {
		for _, code := range numbers() {
			p := api.Packet{Kind: kind, ID: 0x1234, Code: code}
			want, wantIs := meantNext(p)
			if got, is := ack.Next(p); is != wantIs || !head.Same(got, want) {
				t.Fatalf("Next(%v): %v %v", p, got, is)
			}
		}
	}
	for _, kind := range kinds {
		for _, id := range append(numbers(), 65535, 65536) {
			for _, p := range filled(api.Packet{Kind: kind}) {
				p.ID = id
				want, wantIs := meantNext(p)
				if got, is := ack.Next(p); is != wantIs || !head.Same(got, want) {
					t.Fatalf("Next(%v): %v %v", p, got, is)
				}
			}
		}
	}
}

// P10.1: what answers a valid packet is valid, for both versions, until nothing answers.
func TestExchange(t *testing.T) {
	for _, version := range versions {
		p := full(version, 5)
		for _, kind := range []int{6, 7} {
			q, is := ack.Next(p)
			if !is || q.Kind != kind || q.ID != p.ID {
				t.Fatalf("Next(%v): %v %v", p, q, is)
			}
			expect(t, version, q, api.OK)
			p = q
		}
		if q, is := ack.Next(p); is {
			t.Errorf("Next(%v): %v", p, q)
		}
	}
}

// Rule 3: an argument is not changed, nor what lies behind it.
func TestArgumentsStay(t *testing.T) {
	roomy := append(make([]api.Prop, 0, 8), api.Prop{ID: 31, Text: "r"}, api.Prop{ID: 38, Text: "k"})
	p := api.Packet{Kind: 5, ID: 1, Props: roomy}
	ack.Valid(5, p)
	ack.Body(5, p)
	ack.Next(p)
	if want := []api.Prop{{ID: 31, Text: "r"}, {ID: 38, Text: "k"}}; !slices.Equal(roomy, want) {
		t.Errorf("%+v", roomy)
	}
	for _, spare := range roomy[len(roomy):cap(roomy)] {
		if spare != (api.Prop{}) {
			t.Errorf("%+v", spare)
		}
	}
}
