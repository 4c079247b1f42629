package connect_test

import (
	"math"
	"reflect"
	"slices"
	"strings"
	"testing"

	"polyglot/api"
	"polyglot/connect"
	"polyglot/prop"
)

const most = 65535 // bytes of a string

// codes are the document's, by versions.
var codes = map[int][]int{
	4: {0, 1, 2, 3, 4, 5},
	5: {0, 128, 129, 130, 131, 132, 133, 134, 135, 136, 137, 138, 140, 144, 149, 151, 153, 154, 155, 156, 157, 159},
}

// numbers are all small ones, and what would be one of them if it was cut, or its sign lost.
func numbers() []int {
	var l []int
	for n := -40; n <= 300; n++ {
		l = append(l, n)
	}
	for n := range 7 {
		l = append(l, 1<<8+n, 1<<16+n, 1<<32+n, 1<<62+n, math.MinInt+n, math.MaxInt-n, -1<<8+n, -1<<32+n)
	}
	return l
}

// plain returns a CONNECT without anything that it may do without; it is valid for both versions.
func plain() api.Packet {
	return api.Packet{Kind: 1, Client: "c"}
}

// full returns a CONNECT with all fields that it may have in the version.
func full(version int) api.Packet {
	p := api.Packet{
		Kind: 1, Clean: true, KeepAlive: 0x1234, Client: "cl",
		HasUser: true, User: "us\u00e4", HasPass: true, Pass: "\x00\xff",
		HasWill: true, Will: api.Will{Topic: "w/t", Payload: "\xff\x00p", QoS: 2, Retain: true},
	}
	if version == 5 {
		p.Props = []api.Prop{{ID: 33, N: 10}, {ID: 38, Text: "a", Value: "b"}}
		p.Will.Props = []api.Prop{{ID: 24, N: 0x01020304}, {ID: 3, Text: "t"}}
	}
	return p
}

// fullBody is the body of full, by hand.
var fullBody = map[int]string{
	4: "\x00\x04MQTT\x04\xf6\x12\x34" + "\x00\x02cl" + "\x00\x03w/t" + "\x00\x03\xff\x00p" + "\x00\x04us\xc3\xa4" + "\x00\x02\x00\xff",
	5: "\x00\x04MQTT\x05\xf6\x12\x34" + "\x0a\x21\x00\x0a\x26\x00\x01a\x00\x01b" + "\x00\x02cl" +
		"\x09\x18\x01\x02\x03\x04\x03\x00\x01t" + "\x00\x03w/t" + "\x00\x03\xff\x00p" + "\x00\x04us\xc3\xa4" + "\x00\x02\x00\xff",
}

func connack(session bool, code int, props ...api.Prop) api.Packet {
	return api.Packet{Kind: 2, Session: session, Code: code, Props: props}
}

func valid(t *testing.T, version int, p api.Packet, want api.Errno) {
	t.Helper()
	if e := connect.Valid(version, p); e != want {
		t.Errorf("Valid(%d, %+v): %d, not %d", version, p, e, want)
	}
	s, e := connect.Body(version, p)
	if e != want || (e == api.OK) != (s != "") {
		t.Errorf("Body(%d, %+v): %q %d, not %d", version, p, s, e, want)
	}
}

// P8.1: there are two versions, and two kinds.
func TestValidVersionsAndKinds(t *testing.T) {
	for _, n := range numbers() {
		want := api.ErrArg
		if n == 4 || n == 5 {
			want = api.OK
		}
		valid(t, n, plain(), want)
		valid(t, n, connack(true, 0), want)
		want = api.ErrArg
		if n == 1 || n == 2 {
			want = api.OK
		}
		for _, version := range []int{4, 5} {
			p := plain()
			if p.Kind = n; n != 1 {
				p.Client = ""
			}
			valid(t, version, p, want)
		}
	}
}

// P8.1: fields that may be there, alone and together.
func TestValid(t *testing.T) {
	for _, version := range []int{4, 5} {
		valid(t, version, plain(), api.OK)
		valid(t, version, full(version), api.OK)
		for _, alive := range []int{0, 1, 255, 256, 65535} {
			p := plain()
			p.KeepAlive = alive
			valid(t, version, p, api.OK)
		}
		for _, alive := range []int{-1, 65536, 1 << 32, math.MinInt, math.MaxInt} {
			p := plain()
			p.KeepAlive = alive
			valid(t, version, p, api.ErrArg)
		}
		for _, qos := range numbers() {
			p := plain()
			p.HasWill, p.Will = true, api.Will{Topic: "t", QoS: qos}
			want := api.OK
			if qos < 0 || qos > 2 {
				want = api.ErrArg
			}
			valid(t, version, p, want)
		}
	}
}

// P8.1: what a CONNECT of 3.1.1 requires, and one of MQTT 5 does not.
func TestValidOf311(t *testing.T) {
	for _, clean := range []bool{false, true} {
		p := plain()
		p.Client, p.Clean = "", clean
		want := api.ErrArg
		if clean {
			want = api.OK
		}
		valid(t, 4, p, want)
		valid(t, 5, p, api.OK)
	}
	for _, pass := range []string{"", "p"} {
		p := plain()
		p.HasPass, p.Pass = true, pass
		valid(t, 4, p, api.ErrArg)
		valid(t, 5, p, api.OK)
		p.HasUser = true
		valid(t, 4, p, api.OK)
		valid(t, 5, p, api.OK)
	}
	for _, change := range []func(*api.Packet){
		func(p *api.Packet) { p.Props = []api.Prop{{ID: 38}} },
		func(p *api.Packet) { p.Will.Props = []api.Prop{{ID: 38}} },
	} {
		p := full(4)
		change(&p)
		valid(t, 4, p, api.ErrArg)
		valid(t, 5, p, api.OK)
	}
	p := connack(false, 0, api.Prop{ID: 38})
	valid(t, 4, p, api.ErrArg)
	valid(t, 5, p, api.OK)
}

// P8.1: Code and Session.
func TestValidConnack(t *testing.T) {
	for version, may := range codes {
		for _, code := range numbers() {
			want := api.ErrArg
			if slices.Contains(may, code) {
				want = api.OK
			}
			valid(t, version, connack(false, code), want)
			if code != 0 {
				want = api.ErrArg
			}
			valid(t, version, connack(true, code), want)
		}
	}
	valid(t, 5, connack(true, 0, api.Prop{ID: 39, N: 1}, api.Prop{ID: 42, N: 1}), api.OK)
	valid(t, 5, connack(false, 159, api.Prop{ID: 31, Text: "no"}), api.OK)
}

// sample returns a value other than zero for a field.
func sample(v reflect.Value) reflect.Value {
	switch x := v.Interface().(type) {
	case bool:
		return reflect.ValueOf(true)
	case int:
		return reflect.ValueOf(1)
	case string:
		return reflect.ValueOf("x")
	case []int:
		return reflect.ValueOf([]int{0})
	case []api.Filter:
		return reflect.ValueOf([]api.Filter{{}})
	case []api.Prop:
		return reflect.ValueOf([]api.Prop{{ID: 38}})
	case api.Will:
		return reflect.ValueOf(api.Will{Topic: "x"})
	default:
		panic(x)
	}
}

// P8.1: any other field is zero, whichever it is, and so are those that belong to a Has.. that is false.
func TestValidOtherFields(t *testing.T) {
	own := map[string][]api.Packet{ // where a field alone may be set, besides the Kind
		"Clean": {plain()}, "KeepAlive": {plain()}, "Client": {plain()}, "HasUser": {plain()}, "HasPass": {plain()},
		"Session": {connack(false, 0)}, "Code": {connack(false, 0)}, "Props": {plain(), connack(false, 0)},
	}
	fields := reflect.TypeOf(api.Packet{})
	for i := range fields.NumField() {
		name := fields.Field(i).Name
		for _, base := range []api.Packet{plain(), connack(false, 0)} {
			if name == "Kind" || base.Kind == 1 && name == "HasWill" { // a will must have a topic
				continue
			}
			p := base
			field := reflect.ValueOf(&p).Elem().Field(i)
			field.Set(sample(field))
			want := api.ErrArg
			for _, may := range own[name] {
				if may.Kind == base.Kind {
					want = api.OK
				}
			}
			if name == "Code" && base.Kind == 2 {
				p.Code = 134
			}
			valid(t, 5, p, want)
		}
	}
	will := reflect.TypeOf(api.Will{})
	for i := range will.NumField() {
		for _, base := range []api.Packet{plain(), connack(false, 0)} {
			field := reflect.ValueOf(&base.Will).Elem().Field(i)
			field.Set(sample(field))
			for _, version := range []int{4, 5} {
				valid(t, version, base, api.ErrArg)
			}
		}
	}
}

// Rule 4: a list that is empty, but not nil, is not set.
func TestValidEmptyLists(t *testing.T) {
	for _, p := range []api.Packet{plain(), connack(true, 0)} {
		p.Codes, p.Filters, p.Props, p.Will.Props = []int{7}[:0], []api.Filter{{Topic: "x"}}[:0], []api.Prop{{ID: 99}}[:0], []api.Prop{{ID: 99}}[:0]
		valid(t, 4, p, api.OK)
		valid(t, 5, p, api.OK)
	}
}

// P8.1: the texts at their edges.
func TestValidTexts(t *testing.T) {
	long := strings.Repeat("x", most)
	for text, want := range map[string]api.Errno{
		"": api.OK, "\u00e4\U0010ffff": api.OK, "+/#": api.OK, long: api.OK, long + "x": api.ErrText,
		"\x00": api.ErrText, "a\xff": api.ErrText, "\xc0\x80": api.ErrText, "\xed\xa0\x80": api.ErrText,
	} {
		for _, version := range []int{4, 5} {
			p := full(version)
			p.Client = text
			valid(t, version, p, want)
			p = full(version)
			p.User = text
			valid(t, version, p, want)
		}
	}
	for text, want := range map[string]api.Errno{
		"": api.ErrTopic, "a/b": api.OK, "/": api.OK, "$x": api.OK, long: api.OK, long + "x": api.ErrTopic,
		"+": api.ErrTopic, "a/#": api.ErrTopic, "a+": api.ErrTopic, "\x00": api.ErrTopic, "\xff": api.ErrTopic,
	} {
		for _, version := range []int{4, 5} {
			p := full(version)
			p.Will.Topic = text
			valid(t, version, p, want)
		}
	}
	for text, want := range map[string]api.Errno{"": api.OK, "\x00\xff": api.OK, long: api.OK, long + "x": api.ErrArg} {
		for _, version := range []int{4, 5} {
			p := full(version)
			p.Will.Payload = text
			valid(t, version, p, want)
			p = full(version)
			p.Pass = text
			valid(t, version, p, want)
		}
	}
}

// P8.1: properties, those of the will by the rules of wills.
func TestValidProps(t *testing.T) {
	many := slices.Repeat([]api.Prop{{ID: 38}}, 1001)
	for _, c := range []struct {
		l                      []api.Prop
		connect, connack, will api.Errno
	}{
		{[]api.Prop{{ID: 33, N: 1}}, api.OK, api.OK, api.ErrProp},
		{[]api.Prop{{ID: 23, N: 1}}, api.OK, api.ErrProp, api.ErrProp},
		{[]api.Prop{{ID: 36, N: 1}}, api.ErrProp, api.OK, api.ErrProp},
		{[]api.Prop{{ID: 24, N: 1}}, api.ErrProp, api.ErrProp, api.OK},
		{[]api.Prop{{ID: 35, N: 1}}, api.ErrProp, api.ErrProp, api.ErrProp},
		{[]api.Prop{{ID: 38, N: 1}}, api.ErrArg, api.ErrArg, api.ErrArg},
		{[]api.Prop{{ID: 38, Text: "\xff"}}, api.ErrText, api.ErrText, api.ErrText},
		{[]api.Prop{{ID: 22}}, api.ErrProp, api.ErrProp, api.ErrProp},
		{[]api.Prop{{ID: 22}, {ID: 21}}, api.OK, api.OK, api.ErrProp},
		{many[:1000], api.OK, api.OK, api.OK},
		{many, api.ErrLong, api.ErrLong, api.ErrLong},
	} {
		p := full(5)
		p.Props = c.l
		valid(t, 5, p, c.connect)
		valid(t, 5, connack(true, 0, c.l...), c.connack)
		p = full(5)
		p.Will.Props = c.l
		valid(t, 5, p, c.will)
	}
}

// fault is one of the things that may be wrong with full(5), in the order in which they are examined.
type fault struct {
	name string
	e    api.Errno
	make func(*api.Packet)
}

func faults() []fault {
	return []fault{
		{"range", api.ErrArg, func(p *api.Packet) { p.KeepAlive = -1 }},
		{"client", api.ErrText, func(p *api.Packet) { p.Client = "\x00" }},
		{"topic", api.ErrTopic, func(p *api.Packet) { p.Will.Topic = "" }},
		{"payload", api.ErrArg, func(p *api.Packet) { p.Will.Payload = strings.Repeat("x", most+1) }},
		{"props", api.ErrLong, func(p *api.Packet) { p.Props = slices.Repeat([]api.Prop{{ID: 38}}, 1001) }},
		{"props of the will", api.ErrProp, func(p *api.Packet) { p.Will.Props = []api.Prop{{ID: 1}, {ID: 1}} }},
	}
}

// P8.1: of several errors the first in the document's order counts.
func TestValidOrder(t *testing.T) {
	same := []fault{ // at the same places
		{"user", api.ErrText, func(p *api.Packet) { p.User = "\xff" }},
		{"pass", api.ErrArg, func(p *api.Packet) { p.Pass = strings.Repeat("x", most+1) }},
		{"other field", api.ErrArg, func(p *api.Packet) { p.Session = true }},
		{"QoS", api.ErrArg, func(p *api.Packet) { p.Will.QoS = 3 }},
	}
	place := map[string]int{"user": 1, "pass": 3, "other field": 0, "QoS": 0}
	l := faults()
	for i, f := range l {
		place[f.name] = i
	}
	l = append(l, same...)
	for _, a := range l {
		for _, b := range l {
			p := full(5)
			a.make(&p)
			b.make(&p)
			want := a.e
			if place[b.name] < place[a.name] {
				want = b.e
			}
			if e := connect.Valid(5, p); e != want {
				t.Errorf("%s and %s: %d, not %d", a.name, b.name, e, want)
			}
		}
	}
	p := full(4)
	p.HasUser, p.User, p.Client, p.Will.Topic = false, "", "\xff", ""
	valid(t, 4, p, api.ErrArg)
	p = full(4)
	p.Client, p.Clean, p.User = "", false, "\xff"
	valid(t, 4, p, api.ErrArg)
}

// P8.1: Flags is a sum, for any packet that is a CONNECT.
func TestFlags(t *testing.T) {
	for flags := range 256 {
		p := api.Packet{
			Kind: 1, HasUser: flags&128 != 0, HasPass: flags&64 != 0, HasWill: flags&4 != 0, Clean: flags&2 != 0,
			Will: api.Will{Retain: flags&32 != 0, QoS: flags / 8 % 4},
		}
		if got := connect.Flags(p); got != flags&^1 {
			t.Errorf("%+v: %x, not %x", p, got, flags&^1)
		}
	}
	for _, version := range []int{4, 5} {
		if got := connect.Flags(full(version)); got != 0xf6 {
			t.Errorf("%x", got)
		}
	}
}

// P8.1: QoS counts modulo 4, from 0 on.
func TestFlagsQoS(t *testing.T) {
	for _, qos := range append(numbers(), math.MinInt, math.MaxInt) {
		want := qos % 4
		if want < 0 {
			want += 4
		}
		p := api.Packet{Kind: 1, Will: api.Will{QoS: qos}}
		if got := connect.Flags(p); got != want*8 {
			t.Errorf("QoS %d: %x, not %x", qos, got, want*8)
		}
	}
}

// P8.1: other kinds have no flags; other fields do not matter.
func TestFlagsOfOthers(t *testing.T) {
	p := full(5)
	for _, kind := range numbers() {
		if p.Kind = kind; kind != 1 && connect.Flags(p) != 0 {
			t.Errorf("kind %d: %x", kind, connect.Flags(p))
		}
	}
	p = api.Packet{
		Kind: 1, Dup: true, Retain: true, QoS: 3, ID: 1, Topic: "t", Payload: "p", KeepAlive: 77, Client: "c", User: "u", Pass: "p",
		Session: true, Code: 255, Codes: []int{1}, Filters: []api.Filter{{}}, Props: []api.Prop{{}}, Will: api.Will{Topic: "t", Payload: "p"},
	}
	if got := connect.Flags(p); got != 0 {
		t.Errorf("%x", got)
	}
}

func body(t *testing.T, version int, p api.Packet, want string) {
	t.Helper()
	if s, e := connect.Body(version, p); s != want || e != api.OK {
		t.Errorf("Body(%d, %+v): %x %d, not %x", version, p, s, e, want)
	}
}

// P8.2: bodies by hand.
func TestBody(t *testing.T) {
	body(t, 4, plain(), "\x00\x04MQTT\x04\x00\x00\x00\x00\x01c")
	body(t, 5, plain(), "\x00\x04MQTT\x05\x00\x00\x00\x00\x00\x01c")
	body(t, 4, api.Packet{Kind: 1, Clean: true, KeepAlive: 65535}, "\x00\x04MQTT\x04\x02\xff\xff\x00\x00")
	body(t, 5, api.Packet{Kind: 1}, "\x00\x04MQTT\x05\x00\x00\x00\x00\x00\x00")
	for version, want := range fullBody {
		body(t, version, full(version), want)
	}
	p := plain()
	p.HasPass = true
	body(t, 5, p, "\x00\x04MQTT\x05\x40\x00\x00\x00\x00\x01c\x00\x00")
	p.HasPass, p.HasUser = false, true
	body(t, 4, p, "\x00\x04MQTT\x04\x80\x00\x00\x00\x01c\x00\x00")
	p.HasUser, p.HasWill, p.Will = false, true, api.Will{Topic: "t", QoS: 1}
	body(t, 4, p, "\x00\x04MQTT\x04\x0c\x00\x00\x00\x01c\x00\x01t\x00\x00")
	body(t, 5, p, "\x00\x04MQTT\x05\x0c\x00\x00\x00\x00\x01c\x00\x00\x01t\x00\x00")
	body(t, 4, connack(false, 5), "\x00\x05")
	body(t, 4, connack(true, 0), "\x01\x00")
	body(t, 5, connack(true, 0), "\x01\x00\x00")
	body(t, 5, connack(false, 159, api.Prop{ID: 37, N: 1}), "\x00\x9f\x02\x25\x01")
}

// Rules 2 and 3: nothing of the packet is changed, not even in its spare capacity.
func TestPacketIsKept(t *testing.T) {
	p, want := full(5), full(5)
	roomy := append(make([]api.Prop, 0, 9), p.Props...)
	p.Props = roomy
	connect.Valid(5, p)
	connect.Body(5, p)
	connect.Flags(p)
	if !reflect.DeepEqual(p, want) {
		t.Errorf("%+v", p)
	}
	for _, spare := range roomy[len(roomy):cap(roomy)] {
		if spare != (api.Prop{}) {
			t.Errorf("%+v", spare)
		}
	}
}

// P8.1, T7: the error of the properties is that of package prop, whatever they are.
func TestValidPropsAreThoseOfProp(t *testing.T) {
	for id := -1; id <= 300; id++ {
		for _, n := range []uint32{0, 1, 2, 65536} {
			for _, text := range []string{"", "a", "\xff"} {
				l := []api.Prop{{ID: id, N: n, Text: text}}
				p := plain()
				p.Props = l
				valid(t, 5, p, prop.Valid(1, l))
				valid(t, 5, connack(true, 0, l...), prop.Valid(2, l))
				p = full(5)
				p.Will.Props = l
				valid(t, 5, p, prop.Valid(16, l))
			}
		}
	}
}
