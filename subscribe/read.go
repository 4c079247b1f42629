package subscribe

import (
	"polyglot/api"
	"polyglot/octet"
	"polyglot/prop"
	"polyglot/ustring"
)

// Read returns the packet of that kind whose body s is.
func Read(version, kind int, s string) (api.Packet, api.Errno) {
	if !known(version, kind) {
		return api.Packet{}, api.ErrArg
	}
	r := reader{octet.New(s), version, kind}
	p := r.packet()
	e := r.Err()
	if e == api.OK {
		e = Valid(version, p)
	}
	if e != api.OK {
		return api.Packet{}, e
	}
	return p, api.OK
}

// reader reads a body part by part. Its cursor keeps the first error, after which all parts are empty.
type reader struct {
	*octet.Cursor
	version, kind int
}

// packet returns the packet; whether its fields are valid is not asked yet, not even whether it may have Codes.
func (r reader) packet() api.Packet {
	p := api.Packet{Kind: r.kind, ID: int(r.Number(idBytes))}
	p.Props = r.props()
	if asks(r.kind) {
		p.Filters = r.filters()
	} else {
		p.Codes = r.codes()
	}
	return p
}

func (r reader) props() []api.Prop {
	if r.version != api.V5 {
		return nil
	}
	l, size, e := prop.Read(r.kind, r.ahead())
	r.pass(size, e)
	return l
}

// filters returns all filters. Nothing says how many there are: they go on as far as there are bytes.
func (r reader) filters() []api.Filter {
	var l []api.Filter
reading:
	for {
		switch {
		case r.Err() != api.OK: // the bytes would never end
			return nil
		case r.Left() == 0:
			break reading
		}
		l = append(l, r.filter())
	}
	return l
}

func (r reader) filter() api.Filter {
	text, size, e := ustring.Read(r.ahead())
	r.pass(size, e)
	var f api.Filter
	if r.kind == api.Subscribe {
		f = r.options()
	}
	f.Topic = text
	return f
}

// options returns as much of a filter as its options tell.
func (r reader) options() api.Filter {
	options := int(r.Number(optionsBytes))
	if options&^bits(r.version) != 0 {
		r.Fail(api.ErrFlags)
	}
	return api.Filter{
		QoS:         options & qosBits / qosLow,
		NoLocal:     options&noLocal != 0,
		AsPublished: options&asPublished != 0,
		Handling:    options & handlingBits / handlingLow,
	}
}

// codes returns the bytes left as codes.
func (r reader) codes() []int {
	var l []int
	rest := r.Take(r.Left())
	for i := range len(rest) {
		l = append(l, int(rest[i]))
	}
	return l
}

// ahead returns the bytes left, but none after an error: what follows a fault need not be read.
func (r reader) ahead() string {
	return r.Peek(r.Left())
}

// pass advances over what another layer read, or takes over its error.
func (r reader) pass(size int, e api.Errno) {
	r.Take(size)
	r.Fail(e)
}
