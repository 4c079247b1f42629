package prop

import (
	"polyglot/api"
	"polyglot/octet"
	"polyglot/ustring"
	"polyglot/varint"
)

// Read returns the list with whose encoding s begins, and the number of bytes of the encoding.
func Read(kind int, s string) (l []api.Prop, size int, e api.Errno) {
	length, size, e := varint.Read(s)
	if e != api.OK {
		return nil, 0, e
	}
	if length > len(s)-size {
		return nil, 0, api.ErrShort
	}
	l, e = readAll(kind, s[size:size+length])
	if e != api.OK {
		return nil, 0, e
	}
	return l, size + length, api.OK
}

// readAll returns the properties that fill s. With an error, what it read so far means nothing.
func readAll(kind int, s string) ([]api.Prop, api.Errno) {
	c := cursor{octet.New(s)}
	t := begin(kind)
	read := readers()
	var l []api.Prop
	for c.Left() > 0 {
		p, e := c.next(t, read)
		if e != api.OK {
			return nil, e
		}
		l = append(l, p)
		if len(l) > api.MostProps {
			return nil, api.ErrLong
		}
	}
	return l, t.end()
}

// cursor stands in the bytes of a list.
type cursor struct{ *octet.Cursor }

// readers returns what reads a value of each shape.
func readers() map[int]func(cursor) api.Prop {
	return map[int]func(cursor) api.Prop{
		api.ShapeOne:    cursor.one,
		api.ShapeTwo:    cursor.two,
		api.ShapeFour:   cursor.four,
		api.ShapeVar:    cursor.variable,
		api.ShapeText:   cursor.text,
		api.ShapeBinary: cursor.binary,
		api.ShapePair:   cursor.pair,
	}
}

// next returns the next property; there is at least its ID.
func (c cursor) next(t *tally, read map[int]func(cursor) api.Prop) (api.Prop, api.Errno) {
	id := int(c.Number(idBytes))
	r := t.rules[id]
	if !r.may(t.kind) {
		return api.Prop{}, api.ErrProp
	}
	p := read[r.shape](c)
	p.ID = id
	switch e := c.Err(); e {
	case api.OK:
		return p, t.add(p)
	case api.ErrShort: // all bytes of the list are there: to wait for more would be in vain
		return api.Prop{}, api.ErrBad
	default:
		return api.Prop{}, e
	}
}

func (c cursor) one() api.Prop  { return c.number(1) }
func (c cursor) two() api.Prop  { return c.number(2) }
func (c cursor) four() api.Prop { return c.number(4) }

func (c cursor) number(size int) api.Prop {
	return api.Prop{N: uint32(c.Number(size))}
}

func (c cursor) variable() api.Prop {
	n, size, e := varint.Read(c.Rest())
	c.pass(size, e)
	return api.Prop{N: uint32(n)}
}

func (c cursor) text() api.Prop {
	text, size, e := ustring.Read(c.Rest())
	c.pass(size, e)
	return api.Prop{Text: text}
}

func (c cursor) binary() api.Prop {
	data, size, e := ustring.ReadBinary(c.Rest())
	c.pass(size, e)
	return api.Prop{Text: data}
}

// pair reads the second string also after an error in the first one, but the cursor keeps the first error.
func (c cursor) pair() api.Prop {
	first, second := c.text(), c.text()
	return api.Prop{Text: first.Text, Value: second.Text}
}

// pass advances over what another layer read at the position, or takes over its error.
func (c cursor) pass(size int, e api.Errno) {
	c.Take(size)
	c.Fail(e)
}
