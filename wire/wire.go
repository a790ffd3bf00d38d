// Package wire is layer 1, numbers in bytes: see shared/doc/01-wire.md.
// A number of k bytes (k is 1, 2 or 4) has its highest byte first.
package wire

import "iter"

// Cursor reads bytes from their beginning on.
type Cursor struct {
	bytes []byte
	at    int
}

// New returns a cursor at the beginning of a copy of b.
func New(b []byte) *Cursor { return &Cursor{bytes: Join(b)} }

// At returns the number of bytes that were read.
func (c *Cursor) At() int {
	if c == nil {
		return 0
	}
	return c.at
}

// Left returns the number of bytes that were not read yet.
func (c *Cursor) Left() int {
	if c == nil {
		return 0
	}
	return len(c.bytes) - c.at
}

// Take reads n bytes and returns a copy of them and true, or reads nothing.
func (c *Cursor) Take(n int) ([]byte, bool) {
	b, ok := c.ahead(n)
	if !ok {
		return nil, false
	}
	c.at += n
	return Join(b), true
}

// Peek returns the number of k bytes that comes next and true, and reads
// nothing.
func (c *Cursor) Peek(k int) (uint32, bool) {
	if !isWidth(k) {
		return 0, false
	}
	b, ok := c.ahead(k)
	return number(b), ok
}

// Number reads a number of k bytes and returns it and true, or reads nothing.
func (c *Cursor) Number(k int) (uint32, bool) {
	x, ok := c.Peek(k)
	if ok {
		c.at += k
	}
	return x, ok
}

// ahead returns the next n bytes in place. Their capacity ends with them, so
// that whoever holds them can't reach those that follow.
func (c *Cursor) ahead(n int) ([]byte, bool) {
	if c == nil || n < 0 || n > c.Left() {
		return nil, false
	}
	end := c.at + n
	return c.bytes[c.at:end:end], true
}

// Numbers returns the numbers of k bytes of which b consists.
func Numbers(k int, b []byte) []uint32 {
	if !isWidth(k) || len(b)%k != 0 {
		return nil
	}
	l := make([]uint32, 0, len(b)/k)
	for x := range numbers(k, b) {
		l = append(l, x)
	}
	return l
}

// Put returns the numbers as numbers of k bytes, one after the other.
func Put(k int, l ...uint32) []byte {
	if !isWidth(k) {
		return nil
	}
	b := make([]byte, 0, k*len(l))
	for _, x := range l {
		for shift := 8 * (k - 1); shift >= 0; shift -= 8 {
			b = append(b, byte(x>>shift))
		}
	}
	return b
}

// Join returns a copy of the bytes of all parts in order.
func Join(parts ...[]byte) []byte {
	size := 0
	for _, p := range parts {
		size += len(p)
	}
	b := make([]byte, 0, size)
	for _, p := range parts {
		b = append(b, p...)
	}
	return b
}

// isWidth reports whether there are numbers of k bytes.
func isWidth(k int) bool { return k == 1 || k == 2 || k == 4 }

// numbers yields the numbers of k bytes of which b consists, in order.
func numbers(k int, b []byte) iter.Seq[uint32] {
	return func(yield func(uint32) bool) {
		for at := 0; at < len(b); at += k {
			if !yield(number(b[at : at+k])) {
				return
			}
		}
	}
}

// number returns the number that the bytes b are.
func number(b []byte) uint32 {
	x := uint32(0)
	for _, part := range b {
		x = x<<8 | uint32(part)
	}
	return x
}
