// Package octet: numbers and bytes in a row. See DOC.md, chapter 1.
package octet

import (
	"bytes"
)

const (
	maxWidth = 7 // one byte fewer than an int has: no number of so many bytes comes near its sign
	maxItems = 1 << 20
)

// Put: see P1.1.
func Put(n, width int) []byte {
	if !isWidth(width) || n < 0 || n>>(8*width) != 0 {
		return nil
	}
	b := make([]byte, width)
	for i := range b {
		b[width-1-i] = byte(n >> (8 * i))
	}
	return b
}

// Get: see P1.1.
func Get(b []byte) int {
	if !isWidth(len(b)) {
		return 0
	}
	n := 0
	for _, x := range b {
		n = n<<8 | int(x)
	}
	return n
}

func isWidth(width int) bool {
	return 1 <= width && width <= maxWidth
}

// Reader: see P1.2. A zero one is as one of no byte.
type Reader struct {
	left   []byte
	failed bool
}

// New: see P1.2.
func New(b []byte) *Reader {
	return &Reader{left: bytes.Clone(b)} // whoever handed b in may write into it later
}

// Num: see P1.2.
func (r *Reader) Num(width int) int {
	if !isWidth(width) {
		r.fail()
		return 0
	}
	return Get(r.take(width))
}

// Raw: see P1.2.
func (r *Reader) Raw(n int) []byte {
	return bytes.Clone(r.take(n)) // what take hands out has the reader's other bytes as its spare room
}

// Rest: see P1.2.
func (r *Reader) Rest() []byte {
	return r.Raw(r.Left())
}

// Fail: see P1.2.
func (r *Reader) Fail() bool {
	return r != nil && r.failed
}

// Left: see P1.2.
func (r *Reader) Left() int {
	if r == nil {
		return 0
	}
	return len(r.left)
}

func (r *Reader) fail() {
	if r != nil {
		r.failed = true
	}
}

// take answers a piece of the reader's own memory: no exported function may hand it out.
func (r *Reader) take(n int) []byte {
	if n < 0 || n > r.Left() {
		r.fail()
	}
	if r == nil || r.failed {
		return nil
	}
	taken := r.left[:n]
	r.left = r.left[n:]
	return taken
}

// All: see P1.3.
func All[T any](n int, read func(r *Reader) T, r *Reader) (list []T) {
	if n < 1 || n > maxItems || read == nil {
		return nil
	}
	defer func() {
		if recover() != nil { // read is a stranger's: its panic must not become one of All
			list = nil
		}
	}()
	for range n { // no room is made ahead: a short reader fails long before a great n is reached
		item := read(r)
		if r.Fail() {
			return nil
		}
		list = append(list, item)
	}
	return list
}
