package publish_test

import (
	"fmt"
	"math"
	"reflect"
	"slices"
	"strings"
	"testing"

	"polyglot/api"
	"polyglot/head"
	"polyglot/prop"
	"polyglot/publish"
	"polyglot/topic"
)

const most = 65535 // bytes of a string

var versions = []int{4, 5}

// odd are numbers that are not in the document, among them those that would be good ones if they were cut, or their sign lost.
var odd = []int{
	math.MinInt, math.MinInt + 3, -1 << 32, -1<<32 + 3, -1<<16 + 4, -256, -253, -5, -4, -3, -2, -1, 256, 257, 259, 260, 261,
	1<<16 + 1, 1<<16 + 3, 1<<32 + 1, 1<<32 + 3, 1<<32 + 4, 1<<32 + 5, 1<<62 + 3, math.MaxInt - 2, math.MaxInt,
}

// small returns the numbers from 0 to n, and the odd ones.
func small(n int) []int {
	l := slices.Clone(odd)
	for i := range n + 1 {
		l = append(l, i)
	}
	return l
}

// full returns a packet with all fields that it may have in the version.
func full(version int) api.Packet {
	p := api.Packet{Kind: 3, Dup: true, Retain: true, QoS: 2, ID: 0x1234, Topic: "a/\u00e4", Payload: "\x00\xffp"}
	if version == 5 {
		p.Props = []api.Prop{{ID: 1, N: 1}, {ID: 35, N: 0x0203}, {ID: 38, Text: "k", Value: "v"}}
	}
	return p
}

// fullBody is the body of full, by hand.
var fullBody = map[int]string{
	4: "\x00\x04a/\xc3\xa4" + "\x12\x34" + "\x00\xffp",
	5: "\x00\x04a/\xc3\xa4" + "\x12\x34" + "\x0c\x01\x01\x23\x02\x03\x26\x00\x01k\x00\x01v" + "\x00\xffp",
}

// meantBad returns whether fields of a PUBLISH are wrong, besides its flags, topic and properties.
func meantBad(version int, p api.Packet) bool {
	if version == 4 && len(p.Props) != 0 || p.QoS == 0 && p.ID != 0 || p.QoS != 0 && (p.ID < 1 || p.ID > 65535) {
		return true
	}
	own := api.Packet{Kind: 3, Dup: p.Dup, Retain: p.Retain, QoS: p.QoS, ID: p.ID, Topic: p.Topic, Payload: p.Payload, Props: p.Props}
	return !reflect.DeepEqual(p, own)
}

// meantValid is what Valid is to return, by the words of the document.
func meantValid(version int, p api.Packet) api.Errno {
	aliased := slices.ContainsFunc(p.Props, func(p api.Prop) bool { return p.ID == 35 })
	switch {
	case version != 4 && version != 5 || p.Kind != 3:
		return 2
	case p.QoS < 0 || p.QoS > 2 || p.Dup && p.QoS == 0:
		return 7
	case meantBad(version, p):
		return 2
	case !topic.Name(p.Topic) && (p.Topic != "" || version == 4 || !aliased):
		return 10
	}
	return prop.Valid(3, p.Props)
}

// meantBody is the body of a valid packet.
func meantBody(version int, p api.Packet) string {
	s := string([]byte{byte(len(p.Topic) / 256), byte(len(p.Topic) % 256)}) + p.Topic
	if p.QoS != 0 {
		s += string([]byte{byte(p.ID / 256), byte(p.ID % 256)})
	}
	if version == 5 {
		props, _ := prop.Bytes(3, p.Props)
		s += props
	}
	return s + p.Payload
}

// meantFlags are those of a valid packet.
func meantFlags(p api.Packet) int {
	flags := 2 * p.QoS
	if p.Dup {
		flags += 8
	}
	if p.Retain {
		flags++
	}
	return flags
}

// hold holds Valid and Body against what is meant, and what is read of a body against the packet.
func hold(t *testing.T, version int, p api.Packet) api.Errno {
	t.Helper()
	want := meantValid(version, p)
	if e := publish.Valid(version, p); e != want {
		t.Fatalf("Valid(%d, %s): %d, not %d", version, show(p), e, want)
	}
	s, e := publish.Body(version, p)
	if e != want || e != api.OK && s != "" || e == api.OK && s != meantBody(version, p) {
		t.Fatalf("Body(%d, %s): %.300x %d, not %d", version, show(p), s, e, want)
	}
	if e != api.OK {
		return e
	}
	if back, e := publish.Read(version, meantFlags(p), s); e != api.OK || !head.Same(back, p) {
		t.Fatalf("Read(%d, %d, %.300x): %s %d, not %s", version, meantFlags(p), s, show(back), e, show(p))
	}
	return api.OK
}

// show tells a packet for a message, its long parts not at their full length.
func show(p api.Packet) string {
	props := fmt.Sprintf("%#v", p.Props)
	return fmt.Sprintf("{Kind:%d Dup:%v QoS:%d Retain:%v ID:%d Topic:%.80q Payload:%.80q Props:%.200s ..}",
		p.Kind, p.Dup, p.QoS, p.Retain, p.ID, p.Topic, p.Payload, props)
}

func expect(t *testing.T, version int, p api.Packet, want api.Errno) {
	t.Helper()
	if e := hold(t, version, p); e != want {
		t.Errorf("Valid(%d, %s): %d, not %d", version, show(p), e, want)
	}
}

// P9.1: there are two versions, and one kind; nothing is asked ahead of them.
func TestVersionsAndKinds(t *testing.T) {
	worst := api.Packet{Kind: 3, Dup: true, QoS: -1, ID: -1, Topic: "#", Clean: true, Props: make([]api.Prop, 1001)}
	for _, n := range small(20) {
		if n != 4 && n != 5 {
			expect(t, n, api.Packet{Kind: 3, Topic: "a"}, api.ErrArg)
			expect(t, n, full(5), api.ErrArg)
			expect(t, n, worst, api.ErrArg)
		}
		for _, version := range versions {
			p, bad := full(version), worst
			if p.Kind, bad.Kind = n, n; n != 3 {
				expect(t, version, p, api.ErrArg)
				expect(t, version, bad, api.ErrArg)
			}
		}
	}
	for _, version := range versions {
		expect(t, version, api.Packet{Kind: 3, Topic: "a"}, api.OK)
		expect(t, version, full(version), api.OK)
		expect(t, version, worst, api.ErrFlags)
	}
}

// P9.1: the errors of the flags, and the IDs that go with a QoS.
func TestFlagsAndIDs(t *testing.T) {
	for _, version := range versions {
		for _, qos := range small(8) {
			for _, dup := range []bool{false, true} {
				for _, id := range small(3) {
					p := api.Packet{Kind: 3, Topic: "a", QoS: qos, Dup: dup, ID: id}
					want := api.OK
					switch {
					case qos < 0 || qos > 2 || dup && qos == 0:
						want = api.ErrFlags
					case qos == 0 && id != 0, qos > 0 && (id < 1 || id > 65535):
						want = api.ErrArg
					}
					expect(t, version, p, want)
				}
			}
		}
		for id := range 70_000 {
			p := api.Packet{Kind: 3, Topic: "a", QoS: 1, ID: id}
			if got, want := publish.Valid(version, p) == api.OK, id >= 1 && id <= 65535; got != want {
				t.Fatalf("ID %d: %v", id, got)
			}
		}
	}
}

// filled returns packets that are like p but for one field each that is not zero any more, those of the will among them.
func filled(p api.Packet) map[string]api.Packet {
	all := map[string]api.Packet{}
	fields := reflect.TypeOf(p)
	for i := range fields.NumField() {
		q := p
		if name := fields.Field(i).Name; name == "Will" {
			for j := range reflect.TypeOf(p.Will).NumField() {
				q := p
				fill(reflect.ValueOf(&q.Will).Elem().Field(j))
				all["Will."+reflect.TypeOf(p.Will).Field(j).Name] = q
			}
		} else {
			fill(reflect.ValueOf(&q).Elem().Field(i))
			all[name] = q
		}
	}
	return all
}

func fill(v reflect.Value) {
	switch v.Kind() {
	case reflect.Bool:
		v.SetBool(true)
	case reflect.Int:
		v.SetInt(3)
	case reflect.String:
		v.SetString("x")
	case reflect.Slice:
		v.Set(reflect.MakeSlice(v.Type(), 1, 1))
	}
}

// P9.1: fields that a PUBLISH does not have are zero, whichever they are.
func TestOtherFields(t *testing.T) {
	own := []string{"Kind", "Dup", "Retain", "QoS", "ID", "Topic", "Payload"}
	for _, version := range versions {
		for name, p := range filled(full(version)) {
			if slices.Contains(own, name) || name == "Props" && version == 5 {
				continue
			}
			expect(t, version, p, api.ErrArg)
			p.Topic, p.Payload = "#", "" // still ahead of the topic
			expect(t, version, p, api.ErrArg)
			p.Dup, p.QoS = true, 0 // but behind the flags
			expect(t, version, p, api.ErrFlags)
		}
	}
	for _, l := range [][]api.Prop{{{ID: 38}}, {{ID: 35, N: 1}}, {{ID: 99}}, make([]api.Prop, 1001)} {
		expect(t, 4, api.Packet{Kind: 3, Topic: "a", Props: l}, api.ErrArg)
	}
}

// Rule 4: lists that are empty, but not nil, are not set.
func TestEmptyLists(t *testing.T) {
	for _, version := range versions {
		p := api.Packet{Kind: 3, Topic: "a", Payload: "p"}
		p.Codes, p.Filters, p.Props, p.Will.Props = []int{7}[:0], []api.Filter{{Topic: "x"}}[:0], []api.Prop{{ID: 99}}[:0], []api.Prop{{ID: 99}}[:0]
		s, e := publish.Body(version, p)
		if want := map[int]string{4: "\x00\x01ap", 5: "\x00\x01a\x00p"}[version]; s != want || e != api.OK {
			t.Errorf("%d: %x %d", version, s, e)
		}
		if p.Topic = ""; publish.Valid(version, p) != api.ErrTopic {
			t.Errorf("%d: no alias", version)
		}
	}
}

// P9.1: the topic, which may be empty with an alias alone.
func TestTopics(t *testing.T) {
	alias := api.Prop{ID: 35, N: 1}
	long := strings.Repeat("x", most)
	for name, want := range map[string]api.Errno{
		"a": api.OK, "/": api.OK, "$share/g/a": api.OK, " ": api.OK, "\u00e4\U0010ffff": api.OK, long: api.OK,
		"": api.ErrTopic, "+": api.ErrTopic, "#": api.ErrTopic, "a/#": api.ErrTopic, "a+": api.ErrTopic, long + "x": api.ErrTopic,
		"\x00": api.ErrTopic, "a\xff": api.ErrTopic, "\xc0\x80": api.ErrTopic, "\xed\xa0\x80": api.ErrTopic,
	} {
		for _, qos := range []int{0, 1, 2} {
			p := api.Packet{Kind: 3, Topic: name, QoS: qos, ID: qos}
			expect(t, 4, p, want)
			expect(t, 5, p, want)
			p.Props = []api.Prop{{ID: 38, Text: "k"}, {ID: 2, N: 35}}
			expect(t, 5, p, want)
			aliased := want
			if name == "" {
				aliased = api.OK
			}
			p.Props = append(p.Props, alias, api.Prop{ID: 38})
			expect(t, 5, p, aliased)
			p.Props = []api.Prop{alias}
			expect(t, 5, p, aliased)
			expect(t, 4, p, api.ErrArg)
		}
	}
}

// P9.1: the errors of the properties come last, also that of an alias.
func TestProps(t *testing.T) {
	many := slices.Repeat([]api.Prop{{ID: 38}}, 1001)
	for _, c := range []struct {
		l    []api.Prop
		want api.Errno
	}{
		{[]api.Prop{{ID: 1}, {ID: 2, N: 1}, {ID: 3, Text: "t"}, {ID: 8, Text: "r"}, {ID: 9, Text: "\xff"}, {ID: 35, N: 65535}}, api.OK},
		{[]api.Prop{{ID: 11, N: 1}, {ID: 38}, {ID: 11, N: 268435455}, {ID: 38}}, api.OK},
		{[]api.Prop{{ID: 35}}, api.ErrProp},
		{[]api.Prop{{ID: 35, N: 65536}}, api.ErrProp},
		{[]api.Prop{{ID: 35, N: 1}, {ID: 35, N: 1}}, api.ErrProp},
		{[]api.Prop{{ID: 8, Text: "#"}}, api.ErrProp},
		{[]api.Prop{{ID: 24, N: 1}}, api.ErrProp}, // of a will
		{[]api.Prop{{ID: 31}}, api.ErrProp},       // of others
		{[]api.Prop{{ID: 38, Text: "\xff"}}, api.ErrText},
		{[]api.Prop{{ID: 1, Value: "x"}}, api.ErrArg},
		{many[:1000], api.OK},
		{many, api.ErrLong},
	} {
		p := full(5)
		p.Props = c.l
		expect(t, 5, p, c.want)
		p.Topic = "+"
		expect(t, 5, p, api.ErrTopic)
		p.ID = 0
		expect(t, 5, p, api.ErrArg)
		p.QoS = 3
		expect(t, 5, p, api.ErrFlags)
		p.QoS, p.ID, p.Topic = 1, 1, ""
		if _, aliased := prop.Get(c.l, 35); aliased {
			expect(t, 5, p, c.want)
		} else {
			expect(t, 5, p, api.ErrTopic)
		}
	}
}

// P9.1, T7: whatever the properties are, the error is that of package prop.
func TestPropsAreThoseOfProp(t *testing.T) {
	for _, id := range small(300) {
		for _, n := range []uint32{0, 1, 2, 65535, 65536, math.MaxUint32} {
			for _, text := range []string{"", "a", "\xff"} {
				p := full(5)
				p.Props = []api.Prop{{ID: id, N: n, Text: text}}
				expect(t, 5, p, prop.Valid(3, p.Props))
			}
		}
	}
}

// P9.1: all combinations of good and bad parts.
func TestCombinations(t *testing.T) {
	lists := [][]api.Prop{nil, {{ID: 38}}, {{ID: 35, N: 7}}, {{ID: 38}, {ID: 35, N: 1}, {ID: 35, N: 1}}, {{ID: 35}}, {{ID: 22}}}
	var all []api.Packet
	for _, kind := range []int{2, 3} {
		for flags := range 16 {
			for _, id := range []int{-1, 0, 1, 65535, 65536} {
				for _, name := range []string{"", "a/b", "+", "\xff"} {
					for _, payload := range []string{"", "\x00\x00", "a"} {
						all = append(all, api.Packet{
							Kind: kind, Dup: flags&8 != 0, QoS: flags / 2 % 4, Retain: flags&1 != 0, ID: id, Topic: name, Payload: payload,
						})
					}
				}
			}
		}
	}
	for _, p := range all {
		for _, l := range lists {
			p.Props = l
			for version := 3; version <= 6; version++ {
				p.Session = false
				hold(t, version, p)
				p.Session = true
				hold(t, version, p)
			}
		}
	}
}

// P9.1: known bodies.
func TestBody(t *testing.T) {
	for _, version := range versions {
		if s, e := publish.Body(version, full(version)); s != fullBody[version] || e != api.OK {
			t.Errorf("%d: %x %d", version, s, e)
		}
	}
	for _, c := range []struct {
		version int
		p       api.Packet
		want    string
	}{
		{4, api.Packet{Kind: 3, Topic: "a/b", QoS: 1, ID: 10, Payload: "hi"}, "\x00\x03a/b\x00\x0ahi"},
		{4, api.Packet{Kind: 3, Topic: "a/b", Payload: "hi"}, "\x00\x03a/bhi"},
		{4, api.Packet{Kind: 3, Topic: "a", QoS: 2, ID: 65535, Dup: true}, "\x00\x01a\xff\xff"},
		{5, api.Packet{Kind: 3, Topic: "a"}, "\x00\x01a\x00"},
		{5, api.Packet{Kind: 3, Topic: "a", Retain: true, Payload: "\x00"}, "\x00\x01a\x00\x00"},
		{5, api.Packet{Kind: 3, QoS: 1, ID: 256, Props: []api.Prop{{ID: 35, N: 3}}}, "\x00\x00\x01\x00\x03\x23\x00\x03"},
	} {
		if s, e := publish.Body(c.version, c.p); s != c.want || e != api.OK {
			t.Errorf("Body(%d, %s): %x %d, not %x", c.version, show(c.p), s, e, c.want)
		}
	}
}

// P9.1 and P9.3: the payload may be anything, as long as may be.
func TestPayloads(t *testing.T) {
	var every []byte
	for b := range 256 {
		every = append(every, byte(b))
	}
	for _, payload := range []string{"", "\x00", "\xff\xfe", string(every), strings.Repeat("\xff", most+1), strings.Repeat("x", 1<<20+1)} {
		for _, version := range versions {
			for qos := range 3 {
				expect(t, version, api.Packet{Kind: 3, Topic: "a", QoS: qos, ID: qos * 32767, Payload: payload}, api.OK)
			}
			p := full(version)
			p.Payload = payload
			expect(t, version, p, api.OK)
		}
	}
}

// P9.1: the number of the first property 35, whatever else the packet is.
func TestAlias(t *testing.T) {
	for _, c := range []struct {
		l    []api.Prop
		want int
		is   bool
	}{
		{nil, 0, false},
		{[]api.Prop{}, 0, false},
		{[]api.Prop{{ID: 34, N: 35}, {ID: 38, Text: "35"}, {N: 35}, {ID: -35, N: 35}, {ID: 35 + 256, N: 35}}, 0, false},
		{[]api.Prop{{ID: 35, N: 3}}, 3, true},
		{[]api.Prop{{ID: 35}}, 0, true},
		{[]api.Prop{{ID: 35}, {ID: 35, N: 9}}, 0, true},
		{[]api.Prop{{ID: 38, N: 1}, {ID: 35, N: 65535, Text: "x"}, {ID: 35, N: 1}}, 65535, true},
		{[]api.Prop{{ID: 35, N: 65536}}, 65536, true},
		{[]api.Prop{{ID: 35, N: math.MaxUint32}}, math.MaxUint32, true},
		{append(make([]api.Prop, 2000), api.Prop{ID: 35, N: 2}), 2, true},
	} {
		for _, kind := range []int{0, 1, 3, 14, -1} {
			p := api.Packet{Kind: kind, QoS: 9, Topic: "#", Props: c.l, Will: api.Will{Props: []api.Prop{{ID: 35, N: 77}}}}
			if n, is := publish.Alias(p); n != c.want || is != c.is {
				t.Errorf("Alias(%s): %d %v", show(p), n, is)
			}
		}
	}
}

// Rule 3: an argument is not changed, nor what lies behind it.
func TestArgumentsStay(t *testing.T) {
	roomy := append(make([]api.Prop, 0, 8), api.Prop{ID: 35, N: 1}, api.Prop{ID: 38, Text: "k"})
	p := api.Packet{Kind: 3, QoS: 1, ID: 1, Props: roomy}
	publish.Valid(5, p)
	publish.Body(5, p)
	publish.Alias(p)
	if want := []api.Prop{{ID: 35, N: 1}, {ID: 38, Text: "k"}}; !slices.Equal(roomy, want) {
		t.Errorf("%+v", roomy)
	}
	for _, spare := range roomy[len(roomy):cap(roomy)] {
		if spare != (api.Prop{}) {
			t.Errorf("%+v", spare)
		}
	}
}
