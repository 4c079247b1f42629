package connect

import (
	"strings"

	"polyglot/api"
	"polyglot/octet"
	"polyglot/prop"
	"polyglot/ustring"
)

const (
	protocol   = "\x00\x04MQTT" // its name as a string, with the length
	aliveBytes = 2
)

// Body returns the bytes of a packet that follow its header.
func Body(version int, p api.Packet) (string, api.Errno) {
	if e := Valid(version, p); e != api.OK {
		return "", e
	}
	if p.Kind == api.Connack {
		return join(octets(bit(p.Session, present), p.Code), props(version, p.Kind, p.Props)), api.OK
	}
	return join(
		protocol,
		octets(version, Flags(p)),
		octet.Put(uint64(p.KeepAlive), aliveBytes),
		props(version, p.Kind, p.Props),
		pieces(p.Client),
		when(p.HasWill, props(version, api.WillKind, p.Will.Props), pieces(p.Will.Topic, p.Will.Payload)),
		when(p.HasUser, pieces(p.User)),
		when(p.HasPass, pieces(p.Pass)),
	), api.OK
}

func join(parts ...string) string {
	return strings.Join(parts, "")
}

// when returns parts that a body has only under a condition.
func when(is bool, parts ...string) string {
	if !is {
		return ""
	}
	return join(parts...)
}

// octets returns each number in a byte.
func octets(numbers ...int) string {
	var s string
	for _, n := range numbers {
		s += octet.Put(uint64(n), 1)
	}
	return s
}

// pieces returns each of the texts, which are known to be good, with its length: strings and binary data look alike.
func pieces(texts ...string) string {
	parts := make([]string, len(texts))
	for i, text := range texts {
		parts[i], _ = ustring.Binary(text)
	}
	return join(parts...)
}

// props returns the bytes of a valid list; 3.1.1 has none, not even those of an empty one.
func props(version, kind int, l []api.Prop) string {
	if version != api.V5 {
		return ""
	}
	s, _ := prop.Bytes(kind, l)
	return s
}
