package subscribe_test

import (
	"math"
	"reflect"
	"slices"
	"strings"
	"testing"

	"polyglot/api"
	"polyglot/head"
	"polyglot/prop"
	"polyglot/subscribe"
	"polyglot/topic"
)

var versions = []int{4, 5}

var kinds = []int{8, 9, 10, 11}

// codes are the document's, by versions and kinds.
var codes = map[int]map[int][]int{
	4: {9: {0, 1, 2, 128}},
	5: {9: {0, 1, 2, 128, 131, 135, 143, 145, 151, 158, 161, 162}, 11: {0, 17, 128, 131, 135, 143, 145}},
}

// numbers are all small ones, and what would be one of them if it was cut, or its sign lost.
func numbers() []int {
	var l []int
	for n := -300; n <= 600; n++ {
		l = append(l, n)
	}
	for _, n := range []int{0, 1, 2, 3, 4, 5, 8, 9, 10, 11, 17, 128, 162} {
		l = append(l, 1<<16+n, -1<<16+n, 1<<32+n, -1<<32+n, 1<<62+n, math.MinInt+n, math.MaxInt-n)
	}
	return l
}

// filters returns filters with all options that a packet may give them.
func filters(version, kind int) []api.Filter {
	switch {
	case kind == 8 && version == 5:
		return []api.Filter{{Topic: "a/#", QoS: 1, NoLocal: true, AsPublished: true, Handling: 2}, {Topic: "$share/g/+", QoS: 2, AsPublished: true, Handling: 1}}
	case kind == 8:
		return []api.Filter{{Topic: "a/#", QoS: 1}, {Topic: "$share/g/+", QoS: 2}}
	case kind == 10:
		return []api.Filter{{Topic: "a/#"}, {Topic: "$share/g/+"}}
	}
	return nil
}

// full returns a packet with all fields that it may have in the version.
func full(version, kind int) api.Packet {
	p := api.Packet{Kind: kind, ID: 0x1234, Filters: filters(version, kind), Codes: slices.Clone(codes[version][kind])}
	if version == 5 {
		p.Props = []api.Prop{{ID: 38, Text: "k", Value: "v"}, {ID: 38}}
	}
	return p
}

// fullProps are the properties in the body of full, by hand.
const fullProps = "\x0c" + "\x26\x00\x01k\x00\x01v" + "\x26\x00\x00\x00\x00"

// fullBodies are the bodies of full, by hand.
var fullBodies = map[int]map[int]string{
	4: {
		8:  "\x12\x34" + "\x00\x03a/#\x01" + "\x00\x0a$share/g/+\x02",
		9:  "\x12\x34" + "\x00\x01\x02\x80",
		10: "\x12\x34" + "\x00\x03a/#" + "\x00\x0a$share/g/+",
		11: "\x12\x34",
	},
	5: {
		8:  "\x12\x34" + fullProps + "\x00\x03a/#\x2d" + "\x00\x0a$share/g/+\x1a",
		9:  "\x12\x34" + fullProps + "\x00\x01\x02\x80\x83\x87\x8f\x91\x97\x9e\xa1\xa2",
		10: "\x12\x34" + fullProps + "\x00\x03a/#" + "\x00\x0a$share/g/+",
		11: "\x12\x34" + fullProps + "\x00\x11\x80\x83\x87\x8f\x91",
	},
}

// meantOptions is what a filter may have for options, by the words of the document.
func meantOptions(version, kind int, f api.Filter) bool {
	if kind == 10 {
		return f.QoS == 0 && !f.NoLocal && !f.AsPublished && f.Handling == 0
	}
	if f.QoS != 0 && f.QoS != 1 && f.QoS != 2 {
		return false
	}
	if version == 4 {
		return !f.NoLocal && !f.AsPublished && f.Handling == 0
	}
	if f.Handling != 0 && f.Handling != 1 && f.Handling != 2 {
		return false
	}
	_, _, shared := topic.Shared(f.Topic)
	return !f.NoLocal || !shared
}

// meantValid is what Valid is to return, by the words of the document.
func meantValid(version int, p api.Packet) api.Errno {
	if version != 4 && version != 5 || !slices.Contains(kinds, p.Kind) || p.ID < 1 || p.ID > 65535 {
		return 2
	}
	own := api.Packet{Kind: p.Kind, ID: p.ID}
	switch p.Kind {
	case 8, 10:
		own.Filters = p.Filters
		if len(p.Filters) == 0 {
			return 2
		}
	case 9, 11:
		if version == 4 && p.Kind == 11 {
			break
		}
		own.Codes = p.Codes
		if len(p.Codes) == 0 {
			return 2
		}
	}
	if version == 5 {
		own.Props = p.Props
	}
	if !head.Same(p, own) {
		return 2
	}
	if e := prop.Valid(p.Kind, p.Props); e != 0 {
		return e
	}
	for _, f := range p.Filters {
		if !topic.Filter(f.Topic) {
			return 10
		}
		if !meantOptions(version, p.Kind, f) {
			return 2
		}
	}
	for _, code := range p.Codes {
		if !slices.Contains(codes[version][p.Kind], code) {
			return 2
		}
	}
	return 0
}

// meantByte is the byte of the options of a valid filter: a sum.
func meantByte(f api.Filter) int {
	sum := f.QoS + 16*f.Handling
	if f.NoLocal {
		sum += 4
	}
	if f.AsPublished {
		sum += 8
	}
	return sum
}

// meantBody is the body of a valid packet.
func meantBody(version int, p api.Packet) string {
	bytes := []byte{byte(p.ID / 256), byte(p.ID % 256)}
	if version == 5 {
		props, _ := prop.Bytes(p.Kind, p.Props)
		bytes = append(bytes, props...)
	}
	for _, f := range p.Filters {
		bytes = append(bytes, byte(len(f.Topic)/256), byte(len(f.Topic)%256))
		bytes = append(bytes, f.Topic...)
		if p.Kind == 8 {
			bytes = append(bytes, byte(meantByte(f)))
		}
	}
	for _, code := range p.Codes {
		bytes = append(bytes, byte(code))
	}
	return string(bytes)
}

// hold holds Valid and Body against what is meant, and what is read of a body against the packet.
func hold(t *testing.T, version int, p api.Packet) api.Errno {
	t.Helper()
	want := meantValid(version, p)
	if e := subscribe.Valid(version, p); e != want {
		t.Fatalf("Valid(%d, %.400v): %d, not %d", version, p, e, want)
	}
	s, e := subscribe.Body(version, p)
	if e != want || e != api.OK && s != "" || e == api.OK && s != meantBody(version, p) {
		t.Fatalf("Body(%d, %.400v): %.300x %d, not %d", version, p, s, e, want)
	}
	if e != api.OK {
		return e
	}
	if back, e := subscribe.Read(version, p.Kind, s); e != api.OK || !head.Same(back, p) {
		t.Fatalf("Read(%d, %d, %.300x): %.400v %d, not %.400v", version, p.Kind, s, back, e, p)
	}
	return api.OK
}

func expect(t *testing.T, version int, p api.Packet, want api.Errno) {
	t.Helper()
	if e := hold(t, version, p); e != want {
		t.Errorf("Valid(%d, %.400v): %d, not %d", version, p, e, want)
	}
}

// P11.1: there are two versions, and four kinds.
func TestVersionsAndKinds(t *testing.T) {
	for _, kind := range kinds {
		expect(t, 4, full(4, kind), api.OK)
		expect(t, 5, full(5, kind), api.OK)
		for _, n := range numbers() {
			if n != 4 && n != 5 {
				expect(t, n, full(4, kind), api.ErrArg)
				expect(t, n, full(5, kind), api.ErrArg)
			}
			if n < 8 || n > 11 {
				for _, version := range versions {
					p := full(version, kind)
					p.Kind = n
					expect(t, version, p, api.ErrArg)
					expect(t, version, api.Packet{Kind: n, ID: 1}, api.ErrArg)
				}
			}
		}
		for _, other := range kinds {
			for _, version := range versions {
				p := full(version, kind)
				p.Kind = other
				hold(t, version, p)
			}
		}
	}
}

// P11.1: an ID is from 1 to 65,535.
func TestIDs(t *testing.T) {
	for _, version := range versions {
		for _, kind := range kinds {
			p := full(version, kind)
			for p.ID = -2; p.ID <= 65538; p.ID++ {
				want := api.ErrArg
				if p.ID >= 1 && p.ID <= 65535 {
					want = api.OK
				}
				if e := subscribe.Valid(version, p); e != want {
					t.Fatalf("Valid(%d, %v): %d", version, p, e)
				}
			}
			for _, p.ID = range append(numbers(), 32767, 32768, 65534, 65535, 65536) {
				hold(t, version, p)
			}
		}
	}
}

// P11.1: there is at least one filter, or one code, except that an UNSUBACK of 3.1.1 has none.
func TestAtLeastOne(t *testing.T) {
	for _, version := range versions {
		for _, kind := range kinds {
			p := full(version, kind)
			p.Filters, p.Codes = nil, nil
			want := api.ErrArg
			if version == 4 && kind == 11 {
				want = api.OK
			}
			expect(t, version, p, want)
			p.Filters, p.Codes = []api.Filter{{Topic: "x"}}[:0], []int{7}[:0] // rule 4: as if they were nil
			expect(t, version, p, want)
			p.Props = []api.Prop{{ID: 99}}
			expect(t, version, p, api.ErrArg)
		}
	}
	for _, code := range numbers() {
		expect(t, 4, api.Packet{Kind: 11, ID: 1, Codes: []int{code}}, api.ErrArg)
	}
}

// P11.1: a packet has the list of its kind alone, whatever that of the other one contains.
func TestOtherList(t *testing.T) {
	for _, version := range versions {
		for _, kind := range kinds {
			p := full(version, kind)
			if kind == 8 || kind == 10 {
				p.Codes = []int{0}
			} else {
				p.Filters = []api.Filter{{Topic: "a"}}
			}
			expect(t, version, p, api.ErrArg)
			if kind == 8 || kind == 10 {
				p.Filters = nil
			} else {
				p.Codes = nil
			}
			expect(t, version, p, api.ErrArg)
		}
	}
}

// filled returns packets that are like p but for one field each that is not zero any more, those of the will among them.
func filled(p api.Packet) map[string]api.Packet {
	all := map[string]api.Packet{}
	fields := reflect.TypeOf(p)
	for i := range fields.NumField() {
		q := p
		if name := fields.Field(i).Name; name == "Will" {
			for j := range reflect.TypeOf(p.Will).NumField() {
				q := p
				fill(reflect.ValueOf(&q.Will).Elem().Field(j))
				all["Will."+reflect.TypeOf(p.Will).Field(j).Name] = q
			}
		} else {
			fill(reflect.ValueOf(&q).Elem().Field(i))
			all[name] = q
		}
	}
	return all
}

func fill(v reflect.Value) {
	switch v.Kind() {
	case reflect.Bool:
		v.SetBool(true)
	case reflect.Int:
		v.SetInt(1)
	case reflect.String:
		v.SetString("x")
	case reflect.Slice:
		v.Set(reflect.MakeSlice(v.Type(), 1, 1))
	}
}

// P11.1: fields that the packets do not have are zero, whichever they are; they come ahead of properties, filters and codes.
func TestOtherFields(t *testing.T) {
	for _, version := range versions {
		for _, kind := range kinds {
			own := []string{"Kind", "ID", "Props", "Filters", "Codes"} // the last three are tested for themselves
			tried := 0
			for name, p := range filled(full(version, kind)) {
				if slices.Contains(own, name) {
					continue
				}
				tried++
				expect(t, version, p, api.ErrArg)
				p.Props = []api.Prop{{ID: 99}}
				expect(t, version, p, api.ErrArg)
				p.Props = nil
				for i := range p.Filters {
					p.Filters[i].Topic = ""
				}
				expect(t, version, p, api.ErrArg)
			}
			if tried != 20 {
				t.Errorf("%d fields", tried)
			}
		}
	}
}

// P11.1: the properties are those of MQTT 5; their errors come behind those of the fields, and ahead of those of the filters and codes.
func TestProps(t *testing.T) {
	many := slices.Repeat([]api.Prop{{ID: 38}}, 1001)
	for _, c := range []struct {
		l    []api.Prop
		want map[int]api.Errno
	}{
		{nil, map[int]api.Errno{}},
		{[]api.Prop{{ID: 38, Text: "k"}}, map[int]api.Errno{}},
		{[]api.Prop{{ID: 11, N: 7}}, map[int]api.Errno{9: 9, 10: 9, 11: 9}},
		{[]api.Prop{{ID: 11}}, map[int]api.Errno{8: 9, 9: 9, 10: 9, 11: 9}},
		{[]api.Prop{{ID: 11, N: 7}, {ID: 11, N: 8}}, map[int]api.Errno{8: 9, 9: 9, 10: 9, 11: 9}},
		{[]api.Prop{{ID: 31, Text: "r"}}, map[int]api.Errno{8: 9, 10: 9}},
		{[]api.Prop{{ID: 31}, {ID: 31}}, map[int]api.Errno{8: 9, 9: 9, 10: 9, 11: 9}},
		{[]api.Prop{{ID: 38, N: 1}}, map[int]api.Errno{8: 2, 9: 2, 10: 2, 11: 2}},
		{[]api.Prop{{ID: 38, Text: "\xff"}}, map[int]api.Errno{8: 6, 9: 6, 10: 6, 11: 6}},
		{many[:1000], map[int]api.Errno{}},
		{many, map[int]api.Errno{8: 4, 9: 4, 10: 4, 11: 4}},
	} {
		for _, kind := range kinds {
			want := c.want[kind]
			p := full(5, kind)
			p.Props = c.l
			expect(t, 5, p, want)
			q := p
			q.ID = 0
			expect(t, 5, q, api.ErrArg)
			if want == api.OK {
				continue
			}
			q = p
			q.Codes = append([]int{1000}, p.Codes...)
			q.Filters = append([]api.Filter{{QoS: 3}}, p.Filters...)
			if kind == 8 || kind == 10 {
				q.Codes = nil
			} else {
				q.Filters = nil
			}
			expect(t, 5, q, want)
		}
	}
	for _, kind := range kinds {
		for _, l := range [][]api.Prop{{{ID: 38}}, {{ID: 11, N: 1}}, {{ID: 99}}, many} {
			p := full(4, kind)
			p.Props = l
			expect(t, 4, p, api.ErrArg)
		}
	}
}

// P11.1, T7: whatever the properties are, the error is that of package prop.
func TestPropsAreThoseOfProp(t *testing.T) {
	for _, id := range numbers() {
		for _, n := range []uint32{0, 1, 65536, math.MaxUint32} {
			for _, text := range []string{"", "a", "\xff"} {
				for _, kind := range kinds {
					p := full(5, kind)
					p.Props = []api.Prop{{ID: id, N: n, Text: text}}
					expect(t, 5, p, prop.Valid(kind, p.Props))
				}
			}
		}
	}
}

// P11.1: a topic is a filter.
func TestTopics(t *testing.T) {
	long := strings.Repeat("x", 65535)
	for text, want := range map[string]api.Errno{
		"a": api.OK, "/": api.OK, "+": api.OK, "#": api.OK, "a/+/#": api.OK, "$x": api.OK, "\u00e4": api.OK, long: api.OK,
		"$share/g/a": api.OK, "$share/g": api.OK, "$share//a": api.OK, "$share/+/a": api.OK, "$share/g/#": api.OK,
		"": api.ErrTopic, "a+": api.ErrTopic, "a#": api.ErrTopic, "#/a": api.ErrTopic, "\x00": api.ErrTopic, "\xff": api.ErrTopic, long + "x": api.ErrTopic,
		"$share/g/a#": api.ErrTopic, "$share/g+/a": api.ErrTopic,
	} {
		for _, version := range versions {
			for _, kind := range []int{8, 10} {
				p := full(version, kind)
				p.Filters = []api.Filter{{Topic: text}}
				expect(t, version, p, want)
				p.Filters = append(filters(version, kind), api.Filter{Topic: text})
				expect(t, version, p, want)
			}
		}
	}
}

// P11.1: options in all combinations, of shared filters and of others.
func TestOptionsOfPackets(t *testing.T) {
	for _, version := range versions {
		for _, kind := range []int{8, 10} {
			for _, text := range []string{"a", "#", "$share/g/a", "$share/g/#", "$share/g", "$share//a", "$share/+/a", "$shared/g/a"} {
				for bits := range 4 {
					for qos := -5; qos <= 8; qos++ {
						for handling := -5; handling <= 8; handling++ {
							f := api.Filter{Topic: text, QoS: qos, NoLocal: bits&1 != 0, AsPublished: bits&2 != 0, Handling: handling}
							hold(t, version, api.Packet{Kind: kind, ID: 1, Filters: []api.Filter{f}})
						}
					}
				}
			}
			for _, n := range numbers() {
				hold(t, version, api.Packet{Kind: kind, ID: 1, Filters: []api.Filter{{Topic: "a", QoS: n}}})
				hold(t, version, api.Packet{Kind: kind, ID: 1, Filters: []api.Filter{{Topic: "a", Handling: n}}})
			}
		}
	}
}

// P11.1: the options by hand.
func TestOptionsByHand(t *testing.T) {
	for _, c := range []struct {
		f                 api.Filter
		of311, of5, unsub api.Errno
	}{
		{api.Filter{Topic: "a"}, api.OK, api.OK, api.OK},
		{api.Filter{Topic: "a", QoS: 1}, api.OK, api.OK, api.ErrArg},
		{api.Filter{Topic: "a", QoS: 2}, api.OK, api.OK, api.ErrArg},
		{api.Filter{Topic: "a", QoS: 3}, api.ErrArg, api.ErrArg, api.ErrArg},
		{api.Filter{Topic: "a", QoS: 4}, api.ErrArg, api.ErrArg, api.ErrArg},
		{api.Filter{Topic: "a", QoS: -1}, api.ErrArg, api.ErrArg, api.ErrArg},
		{api.Filter{Topic: "a", NoLocal: true}, api.ErrArg, api.OK, api.ErrArg},
		{api.Filter{Topic: "a", AsPublished: true}, api.ErrArg, api.OK, api.ErrArg},
		{api.Filter{Topic: "a", Handling: 1}, api.ErrArg, api.OK, api.ErrArg},
		{api.Filter{Topic: "a", Handling: 2}, api.ErrArg, api.OK, api.ErrArg},
		{api.Filter{Topic: "a", Handling: 3}, api.ErrArg, api.ErrArg, api.ErrArg},
		{api.Filter{Topic: "a", Handling: 4}, api.ErrArg, api.ErrArg, api.ErrArg},
		{api.Filter{Topic: "a", Handling: -1}, api.ErrArg, api.ErrArg, api.ErrArg},
		{api.Filter{Topic: "$share/g/a", NoLocal: true}, api.ErrArg, api.ErrArg, api.ErrArg},
		{api.Filter{Topic: "$share/g/a", AsPublished: true, QoS: 2, Handling: 2}, api.ErrArg, api.OK, api.ErrArg},
		{api.Filter{Topic: "$share/g", NoLocal: true}, api.ErrArg, api.OK, api.ErrArg}, // not a shared one: it has no filter within
		{api.Filter{Topic: "a+", QoS: 3, NoLocal: true, Handling: -1}, api.ErrTopic, api.ErrTopic, api.ErrTopic},
	} {
		expect(t, 4, api.Packet{Kind: 8, ID: 1, Filters: []api.Filter{c.f}}, c.of311)
		expect(t, 5, api.Packet{Kind: 8, ID: 1, Filters: []api.Filter{c.f}}, c.of5)
		expect(t, 4, api.Packet{Kind: 10, ID: 1, Filters: []api.Filter{c.f}}, c.unsub)
		expect(t, 5, api.Packet{Kind: 10, ID: 1, Filters: []api.Filter{c.f}}, c.unsub)
	}
}

// P11.1: of several filters that are wrong the first counts, and of each its topic first.
func TestFiltersOneByOne(t *testing.T) {
	good, topicless, optioned := api.Filter{Topic: "a"}, api.Filter{}, api.Filter{Topic: "a", QoS: 3}
	for _, c := range []struct {
		l    []api.Filter
		want api.Errno
	}{
		{[]api.Filter{good, good, good}, api.OK},
		{[]api.Filter{good, topicless, optioned}, api.ErrTopic},
		{[]api.Filter{good, optioned, topicless}, api.ErrArg},
		{[]api.Filter{{QoS: 3}, optioned}, api.ErrTopic},
		{[]api.Filter{good, good, optioned}, api.ErrArg},
		{[]api.Filter{good, good, topicless}, api.ErrTopic},
	} {
		for _, version := range versions {
			expect(t, version, api.Packet{Kind: 8, ID: 1, Filters: c.l}, c.want)
			expect(t, version, api.Packet{Kind: 10, ID: 1, Filters: c.l}, c.want)
		}
	}
}

// P11.1: each version and kind has its codes, at any place.
func TestCodes(t *testing.T) {
	for _, version := range versions {
		for _, kind := range []int{9, 11} {
			for _, code := range numbers() {
				want := api.ErrArg
				if slices.Contains(codes[version][kind], code) {
					want = api.OK
				}
				expect(t, version, api.Packet{Kind: kind, ID: 1, Codes: []int{code}}, want)
				p := full(version, kind)
				p.Codes = append(p.Codes, code)
				expect(t, version, p, want)
			}
		}
	}
}

// P11.1: known bodies.
func TestBody(t *testing.T) {
	for _, version := range versions {
		for _, kind := range kinds {
			want := fullBodies[version][kind]
			if s, e := subscribe.Body(version, full(version, kind)); s != want || e != api.OK {
				t.Errorf("%d %d: %x %d", version, kind, s, e)
			}
		}
	}
	for _, c := range []struct {
		version int
		p       api.Packet
		want    string
	}{
		{4, api.Packet{Kind: 8, ID: 1, Filters: []api.Filter{{Topic: "a/#", QoS: 2}}}, "\x00\x01\x00\x03a/#\x02"},
		{5, api.Packet{Kind: 8, ID: 1, Filters: []api.Filter{{Topic: "a/#", QoS: 2}}}, "\x00\x01\x00\x00\x03a/#\x02"},
		{5, api.Packet{Kind: 8, ID: 65535, Filters: []api.Filter{{Topic: "a", NoLocal: true}, {Topic: "b", AsPublished: true}, {Topic: "c", Handling: 1}}}, "\xff\xff\x00\x00\x01a\x04\x00\x01b\x08\x00\x01c\x10"},
		{5, api.Packet{Kind: 8, ID: 1, Filters: []api.Filter{{Topic: "a"}}, Props: []api.Prop{{ID: 11, N: 128}}}, "\x00\x01\x03\x0b\x80\x01\x00\x01a\x00"},
		{4, api.Packet{Kind: 9, ID: 256, Codes: []int{128, 0}}, "\x01\x00\x80\x00"},
		{5, api.Packet{Kind: 9, ID: 256, Codes: []int{162}}, "\x01\x00\x00\xa2"},
		{4, api.Packet{Kind: 10, ID: 1, Filters: []api.Filter{{Topic: "a"}}}, "\x00\x01\x00\x01a"},
		{5, api.Packet{Kind: 10, ID: 1, Filters: []api.Filter{{Topic: "a"}}}, "\x00\x01\x00\x00\x01a"},
		{4, api.Packet{Kind: 11, ID: 5}, "\x00\x05"},
		{5, api.Packet{Kind: 11, ID: 5, Codes: []int{17}}, "\x00\x05\x00\x11"},
	} {
		if s, e := subscribe.Body(c.version, c.p); s != c.want || e != api.OK {
			t.Errorf("Body(%d, %v): %x %d, not %x", c.version, c.p, s, e, c.want)
		}
	}
}

// P11.1: Options is a sum of what the fields tell, for any filter.
func TestOptions(t *testing.T) {
	for b := range 64 {
		f := api.Filter{Topic: "a", QoS: b % 4, NoLocal: b&4 != 0, AsPublished: b&8 != 0, Handling: b / 16}
		if got := subscribe.Options(f); got != b || b != meantByte(f) {
			t.Errorf("Options(%v): %d, not %d", f, got, b)
		}
	}
	for _, n := range append(numbers(), math.MinInt, math.MaxInt) {
		want := (n%4 + 4) % 4
		if got := subscribe.Options(api.Filter{QoS: n}); got != want {
			t.Errorf("QoS %d: %d, not %d", n, got, want)
		}
		if got := subscribe.Options(api.Filter{Handling: n, NoLocal: true}); got != 16*want+4 {
			t.Errorf("Handling %d: %d, not %d", n, got, 16*want+4)
		}
	}
	if got := subscribe.Options(api.Filter{Topic: "\xff"}); got != 0 {
		t.Errorf("a topic alone: %d", got)
	}
}

// asked returns pairs of packets that answer one another.
func asked(version int) [][2]api.Packet {
	var all [][2]api.Packet
	for _, kind := range []int{8, 10} {
		for count := 1; count <= 4; count++ {
			ask, answer := full(version, kind), full(version, kind+1)
			ask.Filters = slices.Repeat(ask.Filters, 2)[:count]
			if version == 5 || kind == 8 {
				answer.Codes = answer.Codes[:count]
			}
			all = append(all, [2]api.Packet{ask, answer})
		}
	}
	return all
}

// meantAnswers is what Answers is to return, by the words of the document.
func meantAnswers(version int, ask, answer api.Packet) bool {
	if !(ask.Kind == 8 && answer.Kind == 9) && !(ask.Kind == 10 && answer.Kind == 11) {
		return false
	}
	if meantValid(version, ask) != 0 || meantValid(version, answer) != 0 || ask.ID != answer.ID {
		return false
	}
	if version == 4 && answer.Kind == 11 {
		return len(answer.Codes) == 0
	}
	return len(answer.Codes) == len(ask.Filters)
}

// P11.3: an answer is of the kind that belongs to the other's, with its ID, and with a code for each filter.
func TestAnswers(t *testing.T) {
	for _, version := range versions {
		pairs := asked(version)
		for i, a := range pairs {
			if !subscribe.Answers(version, a[0], a[1]) {
				t.Errorf("%d: %v does not answer %v", version, a[1], a[0])
			}
			if subscribe.Answers(version, a[1], a[0]) || subscribe.Answers(version, a[0], a[0]) || subscribe.Answers(version, a[1], a[1]) {
				t.Errorf("%d: %v asks, or %v answers", version, a[1], a[0])
			}
			for _, other := range []int{0, 3, 6, math.MinInt, math.MaxInt, 9 - version} {
				if subscribe.Answers(other, a[0], a[1]) && (version == 5 || other != 5) {
					t.Errorf("%d: version %d", version, other)
				}
			}
			for j, b := range pairs {
				same := i == j || version == 4 && i >= 4 && j >= 4 // an UNSUBACK of 3.1.1 answers any number of filters
				if got := subscribe.Answers(version, a[0], b[1]); got != same || got != meantAnswers(version, a[0], b[1]) {
					t.Errorf("%d: Answers(%v, %v): %v", version, a[0], b[1], got)
				}
			}
		}
	}
}

// P11.3: only a SUBACK and an UNSUBACK answer, and each of them what belongs to it, even where kinds lie next to each other and lists are of one length.
func TestAnswersKinds(t *testing.T) {
	for _, version := range versions {
		for _, kind := range kinds {
			for _, other := range kinds {
				ask, answer := full(version, kind), full(version, other)
				if len(ask.Filters) > 0 && len(answer.Codes) > 0 {
					answer.Codes = answer.Codes[:len(ask.Filters)]
				}
				want := kind == 8 && other == 9 || kind == 10 && other == 11
				if got := subscribe.Answers(version, ask, answer); got != want {
					t.Errorf("%d: Answers(%v, %v): %v", version, ask, answer, got)
				}
			}
		}
	}
}

// P11.3: what is not valid neither answers nor is answered, and another ID is another packet.
func TestAnswersOfOthers(t *testing.T) {
	for _, version := range versions {
		for _, pair := range asked(version) {
			for _, n := range numbers() {
				for i := range pair {
					changed := pair
					changed[i].ID = n
					if got := subscribe.Answers(version, changed[0], changed[1]); got != (n == 0x1234) {
						t.Fatalf("ID %d: %v", n, got)
					}
					changed[1-i].ID = n
					if got := subscribe.Answers(version, changed[0], changed[1]); got != (n >= 1 && n <= 65535) {
						t.Fatalf("both IDs %d: %v", n, got)
					}
					changed = pair
					changed[i].Kind = n
					if got := subscribe.Answers(version, changed[0], changed[1]); got != (n == pair[i].Kind) {
						t.Fatalf("kind %d: %v", n, got)
					}
				}
			}
			for i := range pair {
				for name, p := range filled(pair[i]) {
					changed := pair
					changed[i] = p
					if got := subscribe.Answers(version, changed[0], changed[1]); got != meantAnswers(version, changed[0], changed[1]) {
						t.Fatalf("%s: %v", name, got)
					}
				}
			}
		}
	}
	for _, version := range versions { // nothing is asked, and nothing answered
		ask, answer := api.Packet{Kind: 8, ID: 1}, api.Packet{Kind: 9, ID: 1}
		if subscribe.Answers(version, ask, answer) || subscribe.Answers(version, api.Packet{}, api.Packet{}) {
			t.Errorf("%d: empty packets", version)
		}
		ask.Filters, answer.Codes = []api.Filter{{Topic: "a+"}}, []int{0}
		if subscribe.Answers(version, ask, answer) {
			t.Errorf("%d: a topic that is no filter", version)
		}
		ask.Filters[0].Topic, answer.Codes[0] = "a", 3
		if subscribe.Answers(version, ask, answer) {
			t.Errorf("%d: a code that is none", version)
		}
	}
	if subscribe.Answers(4, full(4, 10), api.Packet{Kind: 11, ID: 0x1234, Codes: []int{0, 0}}) {
		t.Error("codes of an UNSUBACK of 3.1.1")
	}
}

// Rule 3: an argument is not changed, nor what lies behind it.
func TestArgumentsStay(t *testing.T) {
	for _, version := range versions {
		for _, kind := range kinds {
			p := full(version, kind)
			p.Filters = append(make([]api.Filter, 0, 8), p.Filters...)
			p.Codes = append(make([]int, 0, 20), p.Codes...)
			p.Props = append(make([]api.Prop, 0, 8), p.Props...)
			subscribe.Valid(version, p)
			subscribe.Body(version, p)
			subscribe.Answers(version, p, p)
			if !head.Same(p, full(version, kind)) {
				t.Errorf("%v", p)
			}
			p.Filters, p.Codes, p.Props = p.Filters[:8], p.Codes[:20], p.Props[:8]
			want := full(version, kind)
			want.Filters = append(want.Filters, make([]api.Filter, 8-len(want.Filters))...)
			want.Codes = append(want.Codes, make([]int, 20-len(want.Codes))...)
			want.Props = append(want.Props, make([]api.Prop, 8-len(want.Props))...)
			if !head.Same(p, want) {
				t.Errorf("%v", p)
			}
		}
	}
}
