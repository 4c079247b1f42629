// Package octet encodes numbers as bytes, and reads byte strings with a cursor.
package octet

import (
	"polyglot/api"
)

const (
	numberBytes = 8  // a number has 64 bits
	mostBytes   = 16 // the document caps what Put returns, so that no size asks for unbounded memory
)

// Cursor is made by New alone: self points to the cursor itself, so that neither a zero value nor a copy passes for one.
type Cursor struct {
	self *Cursor
	text string
	at   int
	err  api.Errno
}

// Put returns the lowest size bytes of n, the highest first. Beyond eight bytes the shifts leave nothing of n, hence the zero bytes ahead.
func Put(n uint64, size int) string {
	count := min(size, mostBytes)
	var bytes []byte
	for i := range count {
		bytes = append(bytes, byte(n>>(8*(count-1-i))))
	}
	return string(bytes)
}

// Get returns the number of the last eight bytes of s; those before them would be shifted out anyway.
func Get(s string) uint64 {
	last := s[max(0, len(s)-numberBytes):]
	var n uint64
	for i := range len(last) {
		n = n<<8 | uint64(last[i])
	}
	return n
}

// New returns a cursor at position 0 of s.
func New(s string) *Cursor {
	c := &Cursor{text: s}
	c.self = c
	return c
}

func (c *Cursor) valid() bool {
	return c != nil && c.self == c
}

// Take returns the next n bytes and advances. If they are not there, nothing is consumed, so that At still tells where the fault is.
func (c *Cursor) Take(n int) string {
	if c.Err() != api.OK {
		return ""
	}
	if n < 0 || n > c.Left() {
		c.Fail(api.ErrShort)
		return ""
	}
	taken := c.text[c.at : c.at+n]
	c.at += n
	return taken
}

// Number returns the number of the next size bytes, and advances like Take.
func (c *Cursor) Number(size int) uint64 {
	return Get(c.Take(size))
}

// Peek returns what Take would, but neither advances nor fails.
func (c *Cursor) Peek(n int) string {
	if c.Err() != api.OK || n < 0 || n > c.Left() {
		return ""
	}
	return c.text[c.at : c.at+n]
}

// Fail sets the cursor's error, unless it has one: the first counts.
func (c *Cursor) Fail(e api.Errno) {
	if c.valid() && c.err == api.OK {
		c.err = e
	}
}

// At returns the position.
func (c *Cursor) At() int {
	if !c.valid() {
		return 0
	}
	return c.at
}

// Left returns the number of bytes left.
func (c *Cursor) Left() int {
	return len(c.Rest())
}

// Rest returns the bytes left, also after an error, and consumes nothing.
func (c *Cursor) Rest() string {
	if !c.valid() {
		return ""
	}
	return c.text[c.at:]
}

// Err returns the cursor's error.
func (c *Cursor) Err() api.Errno {
	if !c.valid() {
		return api.ErrNil
	}
	return c.err
}
