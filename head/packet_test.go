package head_test

import (
	"reflect"
	"testing"

	"polyglot/api"
	"polyglot/head"
)

// full returns a packet all of whose fields, those within lists too, are not zero.
func full() api.Packet {
	return api.Packet{
		Kind: 3, Dup: true, Retain: true, QoS: 1, ID: 7, Topic: "topic", Payload: "payload",
		Clean: true, KeepAlive: 60, Client: "client", HasUser: true, User: "user", HasPass: true, Pass: "pass",
		HasWill: true, Will: api.Will{Topic: "will", Payload: "last", QoS: 2, Retain: true, Props: props("w")},
		Session: true, Code: 135, Codes: []int{1, 2, 128},
		Filters: []api.Filter{{Topic: "a/#", QoS: 1, NoLocal: true, AsPublished: true, Handling: 2}, {Topic: "b", QoS: 2, NoLocal: true, AsPublished: true, Handling: 1}},
		Props:   props("p"),
	}
}

func props(text string) []api.Prop {
	return []api.Prop{{ID: 38, N: 1, Text: text, Value: "one"}, {ID: 38, N: 2, Text: text, Value: "two"}}
}

// changes calls visit once for each field, after changing it and before changing it back; for each list it does so for each of its elements, for one less and for one more, and for two of them exchanged.
func changes(v reflect.Value, path string, visit func(path string)) {
	keep := reflect.New(v.Type()).Elem()
	keep.Set(v)
	try := func(now reflect.Value, path string) {
		v.Set(now)
		visit(path)
		v.Set(keep)
	}
	switch v.Kind() {
	case reflect.Struct:
		for i := range v.NumField() {
			changes(v.Field(i), path+"."+v.Type().Field(i).Name, visit)
		}
	case reflect.Slice:
		n := v.Len()
		for i := range n {
			changes(v.Index(i), path+"[]", visit)
		}
		try(v.Slice(0, n-1), path+" less its last")
		try(v.Slice(1, n), path+" less its first")
		try(reflect.Zero(v.Type()), path+" emptied")
		try(reflect.Append(v, v.Index(n-1)), path+" with one more")
		turned := reflect.MakeSlice(v.Type(), n, n)
		reflect.Copy(turned, v)
		turned.Index(0).Set(v.Index(1))
		turned.Index(1).Set(v.Index(0))
		try(turned, path+" turned")
	case reflect.Bool:
		try(reflect.ValueOf(!v.Bool()), path)
	case reflect.String:
		for _, text := range []string{"", v.String() + "x", v.String()[1:], v.String()[1:] + "\x00"} {
			try(reflect.ValueOf(text), path)
		}
	case reflect.Int:
		try(reflect.ValueOf(int(v.Int()+1)), path)
		try(reflect.ValueOf(int(v.Int()+1<<32)), path)
	case reflect.Uint32:
		try(reflect.ValueOf(uint32(v.Uint()+1<<8)), path)
	default:
		panic(path)
	}
}

// P7.3: packets are the same with all fields equal, and not the same with any one different.
func TestSame(t *testing.T) {
	a, b := full(), full()
	if !head.Same(a, b) || !head.Same(api.Packet{}, api.Packet{}) || head.Same(a, api.Packet{}) || head.Same(api.Packet{}, a) {
		t.Error("whole packets")
	}
	seen := 0
	changes(reflect.ValueOf(&b).Elem(), "", func(path string) {
		seen++
		if head.Same(a, b) || head.Same(b, a) {
			t.Errorf("the same in spite of %s", path)
		}
		if !head.Same(b, b) {
			t.Errorf("not the same as itself with %s changed", path)
		}
	})
	if seen < 60 {
		t.Errorf("only %d changes", seen)
	}
	if !head.Same(a, b) {
		t.Error("not changed back")
	}
}

// P7.3: a single field that is not zero makes a packet another one than that without fields.
func TestSameOneField(t *testing.T) {
	all := reflect.ValueOf(full())
	for i := range all.NumField() {
		var p api.Packet
		reflect.ValueOf(&p).Elem().Field(i).Set(all.Field(i))
		if head.Same(p, api.Packet{}) || head.Same(api.Packet{}, p) || !head.Same(p, p) {
			t.Error(all.Type().Field(i).Name)
		}
	}
}

// hollow returns the packet with all its empty lists as slices that are not nil, and have some spare capacity.
func hollow() api.Packet {
	return api.Packet{
		Codes:   []int{9, 9}[:0],
		Filters: []api.Filter{{Topic: "x"}}[:0],
		Props:   props("x")[:0],
		Will:    api.Will{Props: props("y")[:0]},
	}
}

// P7.3, rule 4: a nil list and an empty one are the same.
func TestSameEmpty(t *testing.T) {
	if !head.Same(hollow(), api.Packet{}) || !head.Same(api.Packet{}, hollow()) {
		t.Error("an empty list is told from nil")
	}
}

// P7.3: what lies in spare capacity does not matter.
func TestSameSpare(t *testing.T) {
	a, b := full(), full()
	a.Codes = append(a.Codes, 5)[:3]
	b.Codes = append(b.Codes, 6)[:3]
	a.Props = append(a.Props, api.Prop{ID: 1})[:2]
	if !head.Same(a, b) || !head.Same(b, a) {
		t.Error("spare capacity is read")
	}
}

// P7.3: a copy is the same in all fields, whichever they are.
func TestCopy(t *testing.T) {
	p := full()
	if got := head.Copy(p); !reflect.DeepEqual(got, p) || !head.Same(got, p) {
		t.Errorf("%+v", got)
	}
	changes(reflect.ValueOf(&p).Elem(), "", func(path string) {
		if got := head.Copy(p); !head.Same(got, p) {
			t.Errorf("%s: %+v", path, got)
		}
	})
	for _, empty := range []api.Packet{{}, hollow()} {
		if got := head.Copy(empty); !head.Same(got, api.Packet{}) {
			t.Errorf("%+v", got)
		}
	}
}

// memory adds the stretches of memory, first and last address, of all texts and lists in v, their spare capacity too.
func memory(v reflect.Value, l [][2]uintptr) [][2]uintptr {
	switch v.Kind() {
	case reflect.Struct:
		for i := range v.NumField() {
			l = memory(v.Field(i), l)
		}
	case reflect.Slice:
		if v.Pointer() != 0 {
			l = append(l, [2]uintptr{v.Pointer(), v.Pointer() + uintptr(max(1, v.Cap()*int(v.Type().Elem().Size()))) - 1})
		}
		for i := range v.Len() {
			l = memory(v.Index(i), l)
		}
	case reflect.String:
		if s := v.String(); s != "" {
			l = append(l, [2]uintptr{v.Pointer(), v.Pointer() + uintptr(len(s)) - 1})
		}
	}
	return l
}

// overlap returns whether any stretch of one lies in one of the other.
func overlap(a, b [][2]uintptr) bool {
	for _, x := range a {
		for _, y := range b {
			if x[0] <= y[1] && y[0] <= x[1] {
				return true
			}
		}
	}
	return false
}

// P7.3: no memory of the packet is shared: neither of lists that are empty, nor of their spare capacity, nor of texts.
func TestCopySharesNothing(t *testing.T) {
	roomy := full()
	roomy.Codes = append(make([]int, 0, 50), roomy.Codes...)
	roomy.Props = append(make([]api.Prop, 0, 50), roomy.Props...)
	roomy.Will.Props = roomy.Props[1:] // lists of one packet that share memory don't do so in the copy
	for i, p := range []api.Packet{full(), hollow(), roomy} {
		got := head.Copy(p)
		was, is := memory(reflect.ValueOf(p), nil), memory(reflect.ValueOf(got), nil)
		if overlap(was, is) {
			t.Errorf("packet %d: shared memory", i)
		}
		for j, stretch := range is {
			if overlap(is[:j], [][2]uintptr{stretch}) {
				t.Errorf("packet %d: shared memory within the copy", i)
			}
		}
	}
}

// P7.3, rule 3: changing the copy in all its lists does not change the packet, and the other way round.
func TestCopyIsIndependent(t *testing.T) {
	p, q := full(), full()
	copied, kept := head.Copy(p), head.Copy(q)
	for _, pair := range [][2]api.Packet{{copied, p}, {q, kept}} {
		changed, other := pair[0], pair[1]
		changed.Codes[0]++
		changed.Filters[0].Topic = "changed"
		changed.Props[1].Value = "changed"
		changed.Will.Props[0].N = 99
		if !head.Same(other, full()) {
			t.Errorf("%+v", other)
		}
	}
}

// P7.3: Copy does not change its packet.
func TestCopyKeepsItsPacket(t *testing.T) {
	p := full()
	head.Copy(p)
	if !reflect.DeepEqual(p, full()) {
		t.Errorf("%+v", p)
	}
}
