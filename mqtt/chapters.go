package mqtt

import (
	"polyglot/ack"
	"polyglot/api"
	"polyglot/connect"
	"polyglot/control"
	"polyglot/publish"
	"polyglot/subscribe"
)

// chapter is how the bodies of some kinds of packets are written and read.
type chapter struct {
	body func(written) (string, api.Errno)
	read func(received) (api.Packet, api.Errno)
}

// byKind returns the chapters by the kinds that any version has.
func byKind() map[int]chapter {
	connects := chapter{written.connect, received.connect}
	publishes := chapter{written.publish, received.publish}
	acks := chapter{written.ack, received.ack}
	subscribes := chapter{written.subscribe, received.subscribe}
	controls := chapter{written.control, received.control}
	return map[int]chapter{
		api.Connect:     connects,
		api.Connack:     connects,
		api.Publish:     publishes,
		api.Puback:      acks,
		api.Pubrec:      acks,
		api.Pubrel:      acks,
		api.Pubcomp:     acks,
		api.Subscribe:   subscribes,
		api.Suback:      subscribes,
		api.Unsubscribe: subscribes,
		api.Unsuback:    subscribes,
		api.Pingreq:     controls,
		api.Pingresp:    controls,
		api.Disconnect:  controls,
		api.Auth:        controls,
	}
}

// written is a packet that is to be written. Each chapter has a method for its body.
type written struct {
	version int
	packet  api.Packet
}

func (w written) connect() (string, api.Errno)   { return connect.Body(w.version, w.packet) }
func (w written) publish() (string, api.Errno)   { return publish.Body(w.version, w.packet) }
func (w written) ack() (string, api.Errno)       { return ack.Body(w.version, w.packet) }
func (w written) subscribe() (string, api.Errno) { return subscribe.Body(w.version, w.packet) }
func (w written) control() (string, api.Errno)   { return control.Body(w.version, w.packet) }

// received is a body that was received with a header. Each chapter has a method for its packet.
type received struct {
	version int
	head    api.Head
	body    string
}

func (r received) connect() (api.Packet, api.Errno) {
	return connect.Read(r.version, r.head.Kind, r.body)
}

// publish needs no kind, but what the header told besides it.
func (r received) publish() (api.Packet, api.Errno) {
	return publish.Read(r.version, r.head.Flags, r.body)
}

func (r received) ack() (api.Packet, api.Errno) {
	return ack.Read(r.version, r.head.Kind, r.body)
}

func (r received) subscribe() (api.Packet, api.Errno) {
	return subscribe.Read(r.version, r.head.Kind, r.body)
}

func (r received) control() (api.Packet, api.Errno) {
	return control.Read(r.version, r.head.Kind, r.body)
}
