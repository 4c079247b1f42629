package connect

import (
	"polyglot/api"
	"polyglot/octet"
	"polyglot/prop"
	"polyglot/ustring"
)

// Read returns the packet of that kind whose body s is.
func Read(version, kind int, s string) (api.Packet, api.Errno) {
	if !known(version, kind) {
		return api.Packet{}, api.ErrArg
	}
	r := reader{octet.New(s), version}
	p := r.packet(kind)
	r.require(r.Left() == 0, api.ErrBad)
	e := r.Err()
	if e == api.OK {
		e = Valid(version, p)
	}
	if e != api.OK {
		return api.Packet{}, e
	}
	return p, api.OK
}

// reader reads a body part by part. Its cursor keeps the first error, after which all parts are empty.
type reader struct {
	*octet.Cursor
	version int
}

func (r reader) packet(kind int) api.Packet {
	if kind == api.Connack {
		return r.connack()
	}
	return r.connect()
}

func (r reader) connack() api.Packet {
	flags := r.octet()
	r.require(flags&^present == 0, api.ErrFlags)
	p := api.Packet{Kind: api.Connack, Session: flags == present}
	p.Code = r.octet()
	p.Props = r.props(api.Connack)
	return p
}

func (r reader) connect() api.Packet {
	r.require(r.Take(len(protocol)) == protocol, api.ErrBad)
	r.require(r.octet() == r.version, api.ErrBad)
	p := r.flags()
	p.KeepAlive = int(r.Number(aliveBytes))
	p.Props = r.props(api.Connect)
	p.Client = r.text()
	if p.HasWill {
		p.Will.Props = r.props(api.WillKind)
		p.Will.Topic = r.text()
		p.Will.Payload = r.data()
	}
	if p.HasUser {
		p.User = r.text()
	}
	if p.HasPass {
		p.Pass = r.data()
	}
	return p
}

// flags returns as much of a CONNECT as its flags tell.
func (r reader) flags() api.Packet {
	flags := r.octet()
	p := described(flags)
	r.require(flags&reserved == 0 && flagsFit(r.version, p), api.ErrFlags)
	return p
}

func (r reader) octet() int {
	return int(r.Number(1))
}

func (r reader) text() string {
	return r.piece(ustring.Read)
}

func (r reader) data() string {
	return r.piece(ustring.ReadBinary)
}

func (r reader) piece(read func(string) (string, int, api.Errno)) string {
	text, size, e := read(r.ahead())
	r.pass(size, e)
	return text
}

func (r reader) props(kind int) []api.Prop {
	if r.version != api.V5 {
		return nil
	}
	l, size, e := prop.Read(kind, r.ahead())
	r.pass(size, e)
	return l
}

// ahead returns the bytes left, but none after an error: what follows a fault need not be read.
func (r reader) ahead() string {
	return r.Peek(r.Left())
}

// pass advances over what another layer read, or takes over its error.
func (r reader) pass(size int, e api.Errno) {
	r.Take(size)
	r.Fail(e)
}

// require sets the error, unless there is one already.
func (r reader) require(is bool, e api.Errno) {
	if !is {
		r.Fail(e)
	}
}
