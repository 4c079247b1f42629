package connect_test

import (
	"reflect"
	"slices"
	"strings"
	"testing"

	"polyglot/api"
	"polyglot/connect"
	"polyglot/head"
	"polyglot/prop"
	"polyglot/topic"
	"polyglot/ustring"
)

// walk reads a body by the words of the document, without a cursor: s is what is left, e the first error.
type walk struct {
	s string
	e api.Errno
}

func (w *walk) fail(is bool, e api.Errno) {
	if is && w.e == api.OK {
		w.e = e
	}
}

func (w *walk) take(n int) string {
	w.fail(len(w.s) < n, api.ErrShort)
	if w.e != api.OK {
		return strings.Repeat("\x00", n)
	}
	part := w.s[:n]
	w.s = w.s[n:]
	return part
}

func (w *walk) data() string {
	length := w.take(2)
	return w.take(int(length[0])*256 + int(length[1]))
}

func (w *walk) text() string {
	s := w.data()
	w.fail(!ustring.Valid(s), api.ErrText)
	return s
}

func (w *walk) props(version, kind int) []api.Prop {
	if version == 4 || w.e != api.OK {
		return nil
	}
	l, size, e := prop.Read(kind, w.s)
	w.fail(e != api.OK, e)
	w.s = w.s[size:]
	return l
}

// meantRead is what Read is to return.
func meantRead(version, kind int, s string) (api.Packet, api.Errno) {
	if version != 4 && version != 5 || kind != 1 && kind != 2 {
		return api.Packet{}, 2
	}
	w := &walk{s: s}
	p := api.Packet{Kind: kind}
	if kind == 1 {
		w.connect(version, &p)
	} else {
		flags := w.take(1)[0]
		w.fail(flags > 1, 7)
		p.Session = flags == 1
		p.Code = int(w.take(1)[0])
		p.Props = w.props(version, 2)
	}
	w.fail(w.s != "", 5)
	w.fail(kind == 1 && version == 4 && p.Client == "" && !p.Clean, 2)
	w.fail(kind == 2 && (!slices.Contains(codes[version], p.Code) || p.Session && p.Code != 0), 2)
	w.fail(p.HasWill && !topic.Name(p.Will.Topic), 10)
	if w.e != api.OK {
		return api.Packet{}, w.e
	}
	return p, 0
}

func (w *walk) connect(version int, p *api.Packet) {
	w.fail(w.take(6) != "\x00\x04MQTT", 5)
	w.fail(int(w.take(1)[0]) != version, 5)
	flags := w.take(1)[0]
	p.Clean, p.HasWill, p.Will.QoS = flags&2 != 0, flags&4 != 0, int(flags>>3&3)
	p.Will.Retain, p.HasPass, p.HasUser = flags&32 != 0, flags&64 != 0, flags&128 != 0
	w.fail(flags&1 != 0 || !p.HasWill && flags&56 != 0 || p.Will.QoS == 3 || version == 4 && p.HasPass && !p.HasUser, 7)
	alive := w.take(2)
	p.KeepAlive = int(alive[0])*256 + int(alive[1])
	p.Props = w.props(version, 1)
	p.Client = w.text()
	if p.HasWill {
		p.Will.Props = w.props(version, 16)
		p.Will.Topic, p.Will.Payload = w.text(), w.data()
	}
	if p.HasUser {
		p.User = w.text()
	}
	if p.HasPass {
		p.Pass = w.data()
	}
}

// read wants of Read what is meant, and of what is read that it is valid, and has the bytes for its body.
func read(t *testing.T, version, kind int, s string) api.Errno {
	t.Helper()
	want, wantE := meantRead(version, kind, s)
	p, e := connect.Read(version, kind, s)
	if e != wantE || !head.Same(p, want) {
		t.Fatalf("Read(%d, %d, %x): %+v %d, not %+v %d", version, kind, s, p, e, want, wantE)
	}
	if e != api.OK {
		return e
	}
	if back, e := connect.Body(version, p); back != s || e != api.OK {
		t.Fatalf("Read(%d, %d, %x): its body is %x %d", version, kind, s, back, e)
	}
	return api.OK
}

// expect wants a certain error for a body of that kind.
func expect(t *testing.T, version, kind int, s string, want api.Errno) {
	t.Helper()
	if e := read(t, version, kind, s); e != want {
		t.Errorf("Read(%d, %d, %x): %d, not %d", version, kind, s, e, want)
	}
}

// P8.2: a version that does not exist, or another kind, whatever the bytes.
func TestReadVersionsAndKinds(t *testing.T) {
	for _, n := range numbers() {
		for _, s := range []string{"", "\x00", "\x00\x00", "\x00\x00\x00", fullBody[4], fullBody[5]} {
			for _, other := range []int{1, 2} {
				if read(t, n, other, s) != api.ErrArg && n != 4 && n != 5 {
					t.Errorf("version %d", n)
				}
			}
			for _, version := range []int{4, 5} {
				if read(t, version, n, s) != api.ErrArg && n != 1 && n != 2 {
					t.Errorf("kind %d", n)
				}
			}
		}
	}
}

// packets returns packets of a version, made in all combinations of parts.
func packets(version int) []api.Packet {
	var l []api.Packet
	for flags := range 256 {
		p := full(version)
		p.Clean = flags&2 != 0
		p.Will.QoS, p.Will.Retain = flags>>3&3, flags&32 != 0
		if p.HasWill = flags&4 != 0; !p.HasWill {
			p.Will = api.Will{}
		}
		if p.HasPass = flags&64 != 0; !p.HasPass {
			p.Pass = ""
		}
		if p.HasUser = flags&128 != 0; !p.HasUser {
			p.User = ""
		}
		if flags&1 != 0 {
			p.Props, p.Will.Props = nil, nil
		}
		if p.Will.QoS < 3 && (version == 5 || p.HasUser || !p.HasPass) {
			l = append(l, p)
		}
	}
	for _, code := range codes[version] {
		l = append(l, connack(code == 0, code), connack(false, code))
		if version == 5 {
			l = append(l, connack(false, code, api.Prop{ID: 31, Text: "r"}, api.Prop{ID: 38, Text: "a"}, api.Prop{ID: 38}))
		}
	}
	return l
}

// P8.3: the packet is read from its body, and from that body alone: what is cut off anywhere is incomplete, what follows is too much.
func TestReadOfBody(t *testing.T) {
	for _, version := range []int{4, 5} {
		for _, p := range packets(version) {
			s, e := connect.Body(version, p)
			got, readE := connect.Read(version, p.Kind, s)
			if e != api.OK || readE != api.OK || !head.Same(got, p) {
				t.Fatalf("%d %+v: %x %d; %+v %d", version, p, s, e, got, readE)
			}
			for cut := range s {
				expect(t, version, p.Kind, s[:cut], api.ErrShort)
			}
			for _, more := range []string{"\x00", "\xff", "\x00\x00", s} {
				expect(t, version, p.Kind, s+more, api.ErrBad)
			}
		}
	}
}

// P8.3: the longest strings and data.
func TestReadLong(t *testing.T) {
	long := strings.Repeat("x", most)
	for _, version := range []int{4, 5} {
		p := full(version)
		p.Client, p.Will.Topic, p.Will.Payload, p.User, p.Pass = long, long, long, long, long
		if version == 5 {
			p.Props = slices.Repeat([]api.Prop{{ID: 38, Text: long[:200], Value: long[:100]}}, 1000)
			p.Will.Props = p.Props
		}
		s, e := connect.Body(version, p)
		if got, readE := connect.Read(version, 1, s); e != api.OK || readE != api.OK || !head.Same(got, p) {
			t.Errorf("%d: %d %d", version, e, readE)
		}
	}
}

// P8.2: every byte of a body with every value: the error that the document says, or another packet with those bytes.
func TestReadChanged(t *testing.T) {
	for _, version := range []int{4, 5} {
		for i, p := range packets(version) {
			if i%7 != 0 && p.Kind == 1 {
				continue
			}
			s, _ := connect.Body(version, p)
			for at := range s {
				for b := range 256 {
					changed := s[:at] + string([]byte{byte(b)}) + s[at+1:]
					read(t, version, p.Kind, changed)
					read(t, 9-version, p.Kind, changed) // the other version
					read(t, version, 3-p.Kind, changed) // the other kind
				}
			}
		}
	}
}

// P8.2: the bytes of all short bodies of a CONNACK.
func TestReadShortConnacks(t *testing.T) {
	for first := range 256 {
		for second := range 256 {
			for _, rest := range []string{"", "\x00", "\x01", "\x80", "\x80\x00", "\x02\x24\x01", "\x02\x24\x02", "\x02\x01\x01", "\x00\x00"} {
				for _, version := range []int{4, 5} {
					read(t, version, 2, string([]byte{byte(first), byte(second)})+rest)
				}
			}
		}
	}
}

// P8.2: the errors of a CONNECT of 3.1.1, by hand.
func TestReadConnectErrors311(t *testing.T) {
	const name = "\x00\x04MQTT\x04"
	for _, c := range []struct {
		s    string
		want api.Errno
	}{
		{"", api.ErrShort},
		{"\xff\xff", api.ErrShort}, // the name is one part
		{"\x00\x04MQT", api.ErrShort},
		{"\x00\x04MQTT", api.ErrShort},
		{"\x00\x04MQTX", api.ErrBad},
		{"\x00\x06MQIsdp\x03\x02\x00\x00\x00\x01c", api.ErrBad},
		{"\x00\x04mqtt\x04\x02\x00\x00\x00\x01c", api.ErrBad},
		{"\x00\x04MQTT\x05", api.ErrBad},
		{name, api.ErrShort},
		{name + "\x01", api.ErrFlags}, // the lowest bit
		{name + "\x08", api.ErrFlags}, // of a will, without a will
		{name + "\x10", api.ErrFlags}, // likewise
		{name + "\x20", api.ErrFlags}, // likewise
		{name + "\x1c", api.ErrFlags}, // QoS 3
		{name + "\x40", api.ErrFlags}, // a password without a user
		{name + "\xee", api.ErrShort}, // allowed
		{name + "\x02\x00", api.ErrShort},
		{name + "\x02\x00\x00\x00", api.ErrShort},
		{name + "\x02\x00\x00\x00\x02a", api.ErrShort},
		{name + "\x02\x00\x00\x00\x01\x00", api.ErrText},
		{name + "\x02\x00\x00\x00\x01\xffmore", api.ErrText},
		{name + "\x02\x00\x00\x00\x00more", api.ErrBad},
		{name + "\x00\x00\x00\x00\x00more", api.ErrBad}, // ahead of what Valid says
		{name + "\x00\x00\x00\x00\x00", api.ErrArg},
		{name + "\x06\x00\x00\x00\x00\x00\x00\x00\x00more", api.ErrBad}, // likewise
		{name + "\x06\x00\x00\x00\x00\x00\x00\x00\x00", api.ErrTopic},
		{name + "\x06\x00\x00\x00\x00\x00\x01+\x00\x00", api.ErrTopic},
		{name + "\x06\x00\x00\x00\x00\x00\x01\xff\x00", api.ErrText},
		{name + "\x04\x00\x00\x00\x00\x00\x00\x00\x00", api.ErrArg}, // ahead of the topic
		{name + "\x82\x00\x00\x00\x00\x00\x01\x00", api.ErrText},
		{name + "\xc2\x00\x00\x00\x00\x00\x01\x00\x00", api.ErrText},
		{name + "\xc2\x00\x00\x00\x00\x00\x00\x00", api.ErrShort},
	} {
		expect(t, 4, 1, c.s, c.want)
	}
}

// P8.2: the errors of a CONNECT of MQTT 5, by hand.
func TestReadConnectErrors5(t *testing.T) {
	const name = "\x00\x04MQTT\x05"
	for _, c := range []struct {
		s    string
		want api.Errno
	}{
		{"\x00\x04MQTT\x04", api.ErrBad},
		{name + "\x41", api.ErrFlags}, // the lowest bit
		{name + "\x40", api.ErrShort}, // allowed
		{name + "\x00\x00\x00", api.ErrShort},
		{name + "\x00\x00\x00\x80", api.ErrShort},
		{name + "\x00\x00\x00\x80\x00", api.ErrBad},
		{name + "\x00\x00\x00\x01", api.ErrShort},
		{name + "\x00\x00\x00\x01\x01", api.ErrProp},
		{name + "\x00\x00\x00\x01\x21\x00\x00", api.ErrBad},
		{name + "\x00\x00\x00\x03\x21\x00\x00\x00\x00", api.ErrProp},
		{name + "\x00\x00\x00\x05\x26\x00\x01\xff\x00\x00\x00", api.ErrText},
		{name + "\x04\x00\x00\x00\x00\x00\x03\x21\x00\x01", api.ErrProp}, // not of a will
		{name + "\x04\x00\x00\x00\x00\x00\x00\x00\x00\x00\x00", api.ErrTopic},
	} {
		expect(t, 5, 1, c.s, c.want)
	}
}

// P8.2: the errors of a CONNACK of 3.1.1, by hand.
func TestReadConnackErrors311(t *testing.T) {
	for _, c := range []struct {
		s    string
		want api.Errno
	}{
		{"", api.ErrShort},
		{"\x02", api.ErrFlags},
		{"\x80\x00", api.ErrFlags},
		{"\x01", api.ErrShort},
		{"\x00\x06", api.ErrArg},
		{"\x00\x06\x00", api.ErrBad},
		{"\x01\x05", api.ErrArg},
		{"\x00\x80", api.ErrArg},
		{"\x00\x00\x00", api.ErrBad},
	} {
		expect(t, 4, 2, c.s, c.want)
	}
}

// P8.2: the errors of a CONNACK of MQTT 5, by hand.
func TestReadConnackErrors5(t *testing.T) {
	for _, c := range []struct {
		s    string
		want api.Errno
	}{
		{"\x00\x00", api.ErrShort},
		{"\x00\x05\x00", api.ErrArg},
		{"\x00\x05\x01\x17", api.ErrProp}, // ahead of what Valid says
		{"\x01\x80\x00", api.ErrArg},
		{"\x00\x00\x00\x00", api.ErrBad},
	} {
		expect(t, 5, 2, c.s, c.want)
	}
}

// P8.2: too many properties.
func TestReadManyProps(t *testing.T) {
	one := "\x26\x00\x00\x00\x00" // 5 bytes; 1,000 of them are 5,000, which are 88 27
	s := "\x00\x00\x88\x27" + strings.Repeat(one, 1000)
	expect(t, 5, 2, s, api.OK)
	expect(t, 5, 2, "\x00\x00\x8d\x27"+strings.Repeat(one, 1001), api.ErrLong)
}

// Rule 3: the lists of a packet that was read share no memory, and another reading is not affected.
func TestReadIsNew(t *testing.T) {
	s := fullBody[5]
	p, _ := connect.Read(5, 1, s)
	p.Props = append(p.Props[:1], slices.Repeat([]api.Prop{{ID: 99}}, 20)...)
	p.Will.Props = append(p.Will.Props[:1], slices.Repeat([]api.Prop{{ID: 98}}, 20)...)
	if p.Props[0].ID != 33 || p.Props[1].ID != 99 || p.Will.Props[0].ID != 24 || p.Will.Props[1].ID != 98 {
		t.Errorf("%+v", p)
	}
	if q, _ := connect.Read(5, 1, s); !reflect.DeepEqual(q, full(5)) {
		t.Errorf("%+v", q)
	}
}
