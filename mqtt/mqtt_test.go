package mqtt_test

import (
	"math"
	"reflect"
	"slices"
	"strings"
	"testing"

	"polyglot/ack"
	"polyglot/api"
	"polyglot/connect"
	"polyglot/control"
	"polyglot/head"
	"polyglot/mqtt"
	"polyglot/publish"
	"polyglot/subscribe"
)

var versions = []int{4, 5}

// mostVar is the document's number, by hand.
const mostVar = 268_435_455

// numbers are all small ones, and what would be one of them if it was cut, or its sign lost.
func numbers() []int {
	var l []int
	for n := -40; n <= 300; n++ {
		l = append(l, n)
	}
	for n := range 17 {
		l = append(l, 1<<8+n, 1<<16+n, 1<<32+n, 1<<62+n, math.MinInt+n, math.MaxInt-n, -1<<8+n, -1<<32+n)
	}
	return l
}

// last returns the last kind of a version; 0 if there is no such version.
func last(version int) int {
	return map[int]int{4: 14, 5: 15}[version]
}

// sample is a packet with its bytes, by hand.
type sample struct {
	s string
	p api.Packet
}

// samples returns packets of each kind that the version has.
func samples(version int) []sample {
	if version == 4 {
		return samples311()
	}
	return samples5()
}

func samples311() []sample {
	filter := []api.Filter{{Topic: "a/#"}}
	twice := []api.Filter{{Topic: "a/#", QoS: 2}, {Topic: "+", QoS: 0}}
	return []sample{
		{"\x10\x0c\x00\x04MQTT\x04\x02\x00\x00\x00\x00", api.Packet{Kind: 1, Clean: true}},
		{"\x10\x1a\x00\x04MQTT\x04\xf6\x00\x3c\x00\x01c\x00\x01t\x00\x02\x00\xff\x00\x01u\x00\x01\xff", api.Packet{
			Kind: 1, Clean: true, KeepAlive: 60, Client: "c", HasUser: true, User: "u", HasPass: true, Pass: "\xff",
			HasWill: true, Will: api.Will{Topic: "t", Payload: "\x00\xff", QoS: 2, Retain: true},
		}},
		{"\x20\x02\x01\x00", api.Packet{Kind: 2, Session: true}},
		{"\x20\x02\x00\x05", api.Packet{Kind: 2, Code: 5}},
		{"\x30\x03\x00\x01a", api.Packet{Kind: 3, Topic: "a"}},
		{"\x31\x05\x00\x01ahi", api.Packet{Kind: 3, Topic: "a", Payload: "hi", Retain: true}},
		{"\x32\x09\x00\x03a/b\x00\x0ahi", api.Packet{Kind: 3, Topic: "a/b", Payload: "hi", QoS: 1, ID: 10}},
		{"\x3d\x05\x00\x01a\xff\xff", api.Packet{Kind: 3, Topic: "a", QoS: 2, Dup: true, Retain: true, ID: 65535}},
		{"\x32\xc8\x01\x00\x01a\x00\x01" + strings.Repeat("\xee", 195), api.Packet{Kind: 3, Topic: "a", Payload: strings.Repeat("\xee", 195), QoS: 1, ID: 1}},
		{"\x40\x02\x00\x07", api.Packet{Kind: 4, ID: 7}},
		{"\x50\x02\x00\x08", api.Packet{Kind: 5, ID: 8}},
		{"\x62\x02\x01\x00", api.Packet{Kind: 6, ID: 256}},
		{"\x70\x02\xff\xff", api.Packet{Kind: 7, ID: 65535}},
		{"\x82\x0c\x00\x01\x00\x03a/#\x02\x00\x01+\x00", api.Packet{Kind: 8, ID: 1, Filters: twice}},
		{"\x90\x04\x00\x01\x02\x80", api.Packet{Kind: 9, ID: 1, Codes: []int{2, 128}}},
		{"\xa2\x07\x00\x02\x00\x03a/#", api.Packet{Kind: 10, ID: 2, Filters: filter}},
		{"\xb0\x02\x00\x02", api.Packet{Kind: 11, ID: 2}},
		{"\xc0\x00", api.Packet{Kind: 12}},
		{"\xd0\x00", api.Packet{Kind: 13}},
		{"\xe0\x00", api.Packet{Kind: 14}},
	}
}

func samples5() []sample {
	reason := []api.Prop{{ID: 31, Text: "r"}}
	filter := []api.Filter{{Topic: "a/#"}}
	options := []api.Filter{{Topic: "a/#", QoS: 1, NoLocal: true, AsPublished: true, Handling: 2}}
	return []sample{
		{"\x10\x0d\x00\x04MQTT\x05\x00\x00\x00\x00\x00\x00", api.Packet{Kind: 1}},
		{"\x10\x26\x00\x04MQTT\x05\xf6\x00\x3c\x05\x11\x00\x00\x00\x0a\x00\x01c\x05\x18\x00\x00\x00\x05\x00\x01t\x00\x02\x00\xff\x00\x01u\x00\x01\xff", api.Packet{
			Kind: 1, Clean: true, KeepAlive: 60, Client: "c", HasUser: true, User: "u", HasPass: true, Pass: "\xff",
			HasWill: true, Will: api.Will{Topic: "t", Payload: "\x00\xff", QoS: 2, Retain: true, Props: []api.Prop{{ID: 24, N: 5}}},
			Props: []api.Prop{{ID: 17, N: 10}},
		}},
		{"\x20\x03\x00\x86\x00", api.Packet{Kind: 2, Code: 134}},
		{"\x20\x06\x01\x00\x03\x21\x00\x0a", api.Packet{Kind: 2, Session: true, Props: []api.Prop{{ID: 33, N: 10}}}},
		{"\x30\x04\x00\x01a\x00", api.Packet{Kind: 3, Topic: "a"}},
		{"\x30\x06\x00\x00\x03\x23\x00\x01", api.Packet{Kind: 3, Props: []api.Prop{{ID: 35, N: 1}}}},
		{"\x3b\x11\x00\x03a/b\x00\x0a\x07\x26\x00\x01k\x00\x01vhi", api.Packet{Kind: 3, Topic: "a/b", Payload: "hi", QoS: 1, ID: 10, Dup: true, Retain: true, Props: []api.Prop{{ID: 38, Text: "k", Value: "v"}}}},
		{"\x40\x02\x00\x07", api.Packet{Kind: 4, ID: 7}},
		{"\x40\x03\x00\x07\x10", api.Packet{Kind: 4, ID: 7, Code: 16}},
		{"\x50\x08\x00\x07\x00\x04\x1f\x00\x01r", api.Packet{Kind: 5, ID: 7, Props: reason}},
		{"\x62\x03\x00\x07\x92", api.Packet{Kind: 6, ID: 7, Code: 146}},
		{"\x70\x02\x00\x07", api.Packet{Kind: 7, ID: 7}},
		{"\x82\x0b\x00\x01\x02\x0b\x07\x00\x03a/#\x2d", api.Packet{Kind: 8, ID: 1, Filters: options, Props: []api.Prop{{ID: 11, N: 7}}}},
		{"\x90\x05\x00\x01\x00\x01\x87", api.Packet{Kind: 9, ID: 1, Codes: []int{1, 135}}},
		{"\xa2\x08\x00\x02\x00\x00\x03a/#", api.Packet{Kind: 10, ID: 2, Filters: filter}},
		{"\xb0\x05\x00\x02\x00\x00\x11", api.Packet{Kind: 11, ID: 2, Codes: []int{0, 17}}},
		{"\xc0\x00", api.Packet{Kind: 12}},
		{"\xd0\x00", api.Packet{Kind: 13}},
		{"\xe0\x00", api.Packet{Kind: 14}},
		{"\xe0\x01\x04", api.Packet{Kind: 14, Code: 4}},
		{"\xe0\x06\x00\x04\x1f\x00\x01r", api.Packet{Kind: 14, Props: reason}},
		{"\xf0\x00", api.Packet{Kind: 15}},
		{"\xf0\x06\x18\x04\x15\x00\x01m", api.Packet{Kind: 15, Code: 24, Props: []api.Prop{{ID: 21, Text: "m"}}}},
	}
}

// chapterOf returns the error and the body of the chapter of the kind, which exists.
func chapterOf(version int, p api.Packet) (string, api.Errno) {
	switch p.Kind {
	case 1, 2:
		return connect.Body(version, p)
	case 3:
		return publish.Body(version, p)
	case 4, 5, 6, 7:
		return ack.Body(version, p)
	case 8, 9, 10, 11:
		return subscribe.Body(version, p)
	}
	return control.Body(version, p)
}

// meant returns the bytes of a packet, or what is wrong with it, by the words of the document.
func meant(version int, p api.Packet) (string, api.Errno) {
	if last(version) == 0 {
		return "", 2
	}
	if p.Kind < 1 || p.Kind > last(version) {
		return "", 8
	}
	body, e := chapterOf(version, p)
	if e != 0 {
		return "", e
	}
	if len(body) > mostVar {
		return "", 4
	}
	flags := 0
	switch p.Kind {
	case 3:
		flags = 2 * p.QoS
		if p.Dup {
			flags += 8
		}
		if p.Retain {
			flags++
		}
	case 6, 8, 10:
		flags = 2
	}
	return string([]byte{byte(p.Kind<<4 + flags)}) + variable(len(body)) + body, 0
}

// variable returns a variable byte integer.
func variable(n int) string {
	var bytes []byte
	for ; n > 127; n /= 128 {
		bytes = append(bytes, byte(n%128+128))
	}
	return string(append(bytes, byte(n)))
}

// hold holds Valid, Bytes and Size against what is meant, and what is read of the bytes against the packet.
func hold(t *testing.T, version int, p api.Packet) api.Errno {
	t.Helper()
	want, wantE := meant(version, p)
	if e := mqtt.Valid(version, p); e != wantE {
		t.Fatalf("Valid(%d, %.400v): %d, not %d", version, p, e, wantE)
	}
	s, e := mqtt.Bytes(version, p)
	if s != want || e != wantE {
		t.Fatalf("Bytes(%d, %.400v): %.200x %d, not %.200x %d", version, p, s, e, want, wantE)
	}
	if n, e := mqtt.Size(version, p); n != len(want) || e != wantE {
		t.Fatalf("Size(%d, %.400v): %d %d, not %d %d", version, p, n, e, len(want), wantE)
	}
	if e != api.OK {
		return e
	}
	if back, n, e := mqtt.Read(version, s); !head.Same(back, p) || n != len(s) || e != api.OK {
		t.Fatalf("Read(%d, %.200x): %.400v %d %d, not %.400v", version, s, back, n, e, p)
	}
	return api.OK
}

func expect(t *testing.T, version int, p api.Packet, want api.Errno) {
	t.Helper()
	if e := hold(t, version, p); e != want {
		t.Errorf("Valid(%d, %.400v): %d, not %d", version, p, e, want)
	}
}

// P13.1: the bytes themselves, by hand, of all kinds of both versions.
func TestBytes(t *testing.T) {
	for _, version := range versions {
		kinds := map[int]bool{}
		for _, c := range samples(version) {
			expect(t, version, c.p, api.OK)
			if s, e := mqtt.Bytes(version, c.p); s != c.s || e != api.OK {
				t.Errorf("Bytes(%d, %v): %x %d, not %x", version, c.p, s, e, c.s)
			}
			if n, e := mqtt.Size(version, c.p); n != len(c.s) || e != api.OK {
				t.Errorf("Size(%d, %v): %d %d, not %d", version, c.p, n, e, len(c.s))
			}
			kinds[c.p.Kind] = true
		}
		if len(kinds) != last(version) {
			t.Errorf("version %d: samples of %d kinds", version, len(kinds))
		}
	}
}

// P13.1: no other versions, whatever the packet.
func TestVersions(t *testing.T) {
	for _, version := range numbers() {
		if version == 4 || version == 5 {
			continue
		}
		for _, c := range append(samples311(), samples5()...) {
			expect(t, version, c.p, api.ErrArg)
		}
		expect(t, version, api.Packet{}, api.ErrArg)
		expect(t, version, api.Packet{Kind: 16, QoS: 3}, api.ErrArg)
		expect(t, version, api.Packet{Kind: 3, QoS: 3}, api.ErrArg)
	}
}

// P13.1: no other kinds, whatever else a packet has; an AUTH is none of 3.1.1.
func TestKinds(t *testing.T) {
	for _, version := range versions {
		for _, kind := range numbers() {
			if kind >= 1 && kind <= last(version) {
				continue
			}
			expect(t, version, api.Packet{Kind: kind}, api.ErrKind)
			expect(t, version, api.Packet{Kind: kind, QoS: 3, ID: -1, Topic: "#", Code: 999, Props: []api.Prop{{ID: 99}}}, api.ErrKind)
			for _, c := range samples(version) {
				c.p.Kind = kind
				expect(t, version, c.p, api.ErrKind)
			}
		}
	}
}

// P13.1: the packets of one version in the other one, and as other kinds.
func TestOtherKinds(t *testing.T) {
	for _, version := range versions {
		for _, c := range append(samples311(), samples5()...) {
			for kind := range 18 {
				c.p.Kind = kind
				hold(t, version, c.p)
			}
		}
	}
}

// P13.1: errors of the chapters, one or more of each.
func TestErrorsOfChapters(t *testing.T) {
	for _, c := range []struct {
		version int
		p       api.Packet
		want    api.Errno
	}{
		{4, api.Packet{Kind: 1}, api.ErrArg}, // no client, and not clean
		{4, api.Packet{Kind: 1, Client: "\xff"}, api.ErrText},
		{4, api.Packet{Kind: 1, Client: "c", HasWill: true}, api.ErrTopic},
		{5, api.Packet{Kind: 1, Props: []api.Prop{{ID: 1}}}, api.ErrProp},
		{5, api.Packet{Kind: 1, Props: make([]api.Prop, 1001)}, api.ErrLong},
		{4, api.Packet{Kind: 2, Code: 6}, api.ErrArg},
		{5, api.Packet{Kind: 2, Code: 5}, api.ErrArg},
		{4, api.Packet{Kind: 3, Topic: "a", QoS: 3}, api.ErrFlags},
		{4, api.Packet{Kind: 3, Topic: "a", Dup: true}, api.ErrFlags},
		{4, api.Packet{Kind: 3, Topic: "#", QoS: -1, ID: -1}, api.ErrFlags},
		{4, api.Packet{Kind: 3, Topic: "#", ID: 1}, api.ErrArg},
		{4, api.Packet{Kind: 3}, api.ErrTopic},
		{5, api.Packet{Kind: 3}, api.ErrTopic},
		{5, api.Packet{Kind: 3, Topic: "a", Props: []api.Prop{{ID: 35}}}, api.ErrProp},
		{4, api.Packet{Kind: 4}, api.ErrArg},
		{4, api.Packet{Kind: 6, ID: 1, Code: 146}, api.ErrArg},
		{5, api.Packet{Kind: 7, ID: 1, Props: []api.Prop{{ID: 1}}}, api.ErrProp},
		{4, api.Packet{Kind: 8, ID: 1}, api.ErrArg},
		{4, api.Packet{Kind: 8, ID: 1, Filters: []api.Filter{{Topic: "#/a"}}}, api.ErrTopic},
		{4, api.Packet{Kind: 9, ID: 1, Codes: []int{3}}, api.ErrArg},
		{5, api.Packet{Kind: 11, ID: 1}, api.ErrArg},
		{4, api.Packet{Kind: 12, QoS: 1}, api.ErrArg},
		{4, api.Packet{Kind: 14, Code: 4}, api.ErrArg},
		{5, api.Packet{Kind: 15, Code: 4}, api.ErrArg},
		{5, api.Packet{Kind: 15, Props: []api.Prop{{ID: 31, Text: "\x00"}}}, api.ErrText},
	} {
		expect(t, c.version, c.p, c.want)
	}
}

// filled returns packets that are like p but for one field each that is not zero any more, those of the will among them.
func filled(p api.Packet) []api.Packet {
	var all []api.Packet
	fields := reflect.TypeOf(p)
	for i := range fields.NumField() {
		if fields.Field(i).Name == "Will" {
			for j := range reflect.TypeOf(p.Will).NumField() {
				q := p
				fill(reflect.ValueOf(&q.Will).Elem().Field(j))
				all = append(all, q)
			}
			continue
		}
		q := p
		fill(reflect.ValueOf(&q).Elem().Field(i))
		all = append(all, q)
	}
	return all
}

func fill(v reflect.Value) {
	switch v.Kind() {
	case reflect.Bool:
		v.SetBool(!v.Bool())
	case reflect.Int:
		v.SetInt(v.Int() + 1)
	case reflect.String:
		v.SetString(v.String() + "x")
	case reflect.Slice:
		v.Set(reflect.MakeSlice(v.Type(), 1, 1))
	}
}

// P13.1 and P13.4: each field changed, and two of them: what is valid has bytes of which it is read, what is not has the error of its chapter.
func TestChangedFields(t *testing.T) {
	for _, version := range versions {
		for _, c := range samples(version) {
			for _, p := range filled(c.p) {
				hold(t, version, p)
				for _, q := range filled(p) {
					hold(t, version, q)
				}
			}
		}
	}
}

// P13.1: bodies whose lengths lie at the edges of variable byte integers.
func TestLengths(t *testing.T) {
	for _, edge := range []struct {
		length int
		bytes  string
	}{
		{127, "\x7f"},
		{128, "\x80\x01"},
		{16_383, "\xff\x7f"},
		{16_384, "\x80\x80\x01"},
		{2_097_151, "\xff\xff\x7f"},
		{2_097_152, "\x80\x80\x80\x01"},
	} {
		p := api.Packet{Kind: 3, Topic: "a", Payload: strings.Repeat("p", edge.length-3)}
		expect(t, 4, p, api.OK)
		want := "\x30" + edge.bytes + "\x00\x01a" + p.Payload
		if s, _ := mqtt.Bytes(4, p); s != want {
			t.Errorf("%d: %.20x", edge.length, s)
		}
		p.Payload = p.Payload[1:]
		expect(t, 5, p, api.OK)
	}
}

// P13.1 and P13.2: the longest payload.
func TestLongestPayload(t *testing.T) {
	payload := strings.Repeat("p", mostVar-3)
	p := api.Packet{Kind: 3, Topic: "a", Payload: payload}
	s, e := mqtt.Bytes(4, p)
	if e != api.OK || len(s) != mostVar+5 || s[:8] != "\x30\xff\xff\xff\x7f\x00\x01a" || s[8:] != payload {
		t.Errorf("%.20x %d %d", s, len(s), e)
	}
	if n, e := mqtt.Size(4, p); n != mostVar+5 || e != api.OK {
		t.Error(n, e)
	}
	if back, n, e := mqtt.Read(4, s); !head.Same(back, p) || n != mostVar+5 || e != api.OK {
		t.Error(n, e)
	}
	if back, n, e := mqtt.Read(4, s[:len(s)-1]); !head.Same(back, api.Packet{}) || n != 0 || e != api.ErrShort {
		t.Error(n, e)
	}
	p.Payload = payload[1:] // ahead of it is the length of the properties
	if e := mqtt.Valid(5, p); e != api.OK {
		t.Error(e)
	}
}

// P13.1: one byte more is too long; errors of the chapter come first.
func TestTooLongPayload(t *testing.T) {
	p := api.Packet{Kind: 3, Topic: "a", Payload: strings.Repeat("p", mostVar-3)}
	if e := mqtt.Valid(5, p); e != api.ErrLong {
		t.Error(e)
	}
	p.Topic = "aa"
	if e := mqtt.Valid(4, p); e != api.ErrLong {
		t.Error(e)
	}
	if s, e := mqtt.Bytes(4, p); s != "" || e != api.ErrLong {
		t.Error(len(s), e)
	}
	if n, e := mqtt.Size(4, p); n != 0 || e != api.ErrLong {
		t.Error(n, e)
	}
	for version, want := range map[int]api.Errno{3: api.ErrArg, 4: api.ErrTopic, 5: api.ErrTopic} {
		p.Topic = ""
		if e := mqtt.Valid(version, p); e != want {
			t.Error(e)
		}
	}
}

// P13.1: the most filters, and one byte more.
func TestLongFilters(t *testing.T) {
	long := strings.Repeat("x", 65_535)
	filters := slices.Repeat([]api.Filter{{Topic: long}}, 4096) // 2 + 4,095 * 65,537 + 61,438 is the greatest length
	p := api.Packet{Kind: 10, ID: 1, Filters: filters}
	filters[4095].Topic = long[:61_436]
	if n, e := mqtt.Size(4, p); n != mostVar+5 || e != api.OK {
		t.Error(n, e)
	}
	filters[4095].Topic = long[:61_437]
	if e := mqtt.Valid(4, p); e != api.ErrLong {
		t.Error(e)
	}
}

// Rule 4: lists that are empty, but not nil, are not set.
func TestEmptyLists(t *testing.T) {
	for _, version := range versions {
		for _, c := range samples(version) {
			p := c.p
			if len(p.Codes) == 0 {
				p.Codes = []int{7}[:0]
			}
			if len(p.Filters) == 0 {
				p.Filters = []api.Filter{{Topic: "x"}}[:0]
			}
			if len(p.Props) == 0 {
				p.Props = []api.Prop{{ID: 99}}[:0]
			}
			if len(p.Will.Props) == 0 {
				p.Will.Props = []api.Prop{{ID: 99}}[:0]
			}
			if s, e := mqtt.Bytes(version, p); s != c.s || e != api.OK {
				t.Errorf("Bytes(%d, %v): %x %d, not %x", version, p, s, e, c.s)
			}
		}
	}
}

// Rule 3: an argument is not changed, nor what lies behind it.
func TestArgumentsStay(t *testing.T) {
	for _, version := range versions {
		for _, c := range samples(version) {
			p := c.p
			p.Codes = append(make([]int, 0, 8), p.Codes...)
			p.Filters = append(make([]api.Filter, 0, 8), p.Filters...)
			p.Props = append(make([]api.Prop, 0, 8), p.Props...)
			p.Will.Props = append(make([]api.Prop, 0, 8), p.Will.Props...)
			mqtt.Valid(version, p)
			mqtt.Bytes(version, p)
			mqtt.Size(version, p)
			if !head.Same(p, c.p) || !unused(p.Codes) || !unused(p.Filters) || !unused(p.Props) || !unused(p.Will.Props) {
				t.Errorf("%d: %v is %v now", version, c.p, p)
			}
		}
	}
}

// unused returns whether the spare capacity of a list is as it was made.
func unused[T comparable](l []T) bool {
	var zero T
	return !slices.ContainsFunc(l[len(l):cap(l)], func(x T) bool { return x != zero })
}
