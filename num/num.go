// Package num is layer 1: numbers as bytes, in their order. See shared/doc/01-num.md.
package num

import (
	"math"
	"math/bits"

	"oxbow/api"
)

// A number's first byte tells which of three forms it has: alone, a pair, or long.
const (
	firstPair = 240
	firstLong = firstPair + 8
	pairsEnd  = firstPair + (firstLong-firstPair)*256
	longBase  = firstLong - 2 // as a long number has 2 bytes at least behind the first one
	lastLong  = longBase + widest

	widest = 8 // bytes of a number
)

// Put is a number's bytes.
func Put(n int) ([]byte, api.Errno) {
	size := Size(n)
	switch size {
	case 0:
		return nil, api.ErrArg
	case 1:
		return []byte{byte(n)}, api.OK
	case 2:
		above := n - firstPair
		return []byte{byte(firstPair + above/256), byte(above)}, api.OK
	}
	return append([]byte{byte(longBase + size - 1)}, highFirst(n, size-1)...), api.OK
}

// Size is how many bytes a number has.
func Size(n int) int {
	switch {
	case n < 0:
		return 0
	case n < firstPair:
		return 1
	case n < pairsEnd:
		return 2
	}
	return 1 + (bits.Len64(uint64(n))+7)/8
}

// Fix is a number in just so many bytes.
func Fix(n, size int) ([]byte, api.Errno) {
	if n < 0 || size < 1 || size > widest || uint64(n)>>(8*size) != 0 {
		return nil, api.ErrArg
	}
	return highFirst(n, size), api.OK
}

// Text is a text's length and its bytes.
func Text(s string) []byte {
	b, _ := Put(len(s)) // a length is never below 0
	return append(b, s...)
}

func highFirst(n, size int) []byte {
	b := make([]byte, size)
	for i := size - 1; i >= 0; i-- {
		b[i] = byte(n)
		n >>= 8
	}
	return b
}

// Reader reads bytes. It stays bad once it has met what it was not asked for.
type Reader struct {
	left []byte
	bad  bool
}

// From is a reader of bytes, which it copies: the caller may change them later.
func From(b []byte) *Reader {
	return &Reader{left: append([]byte(nil), b...)}
}

// Num reads a number.
func (r *Reader) Num() int {
	first := r.Fixed(1)
	n := first
	switch {
	case first < firstPair:
	case first < firstLong:
		n = firstPair + (first-firstPair)*256 + r.Fixed(1)
	case first <= lastLong:
		size := first - longBase
		n = r.Fixed(size)
		if Size(n) != 1+size { // fewer bytes would do
			r.spoil()
		}
	default:
		r.spoil()
	}
	if r.Bad() {
		return 0
	}
	return n
}

// Fixed reads a number of just so many bytes.
func (r *Reader) Fixed(size int) int {
	if size < 1 || size > widest {
		r.spoil()
		return 0
	}
	var n uint64
	for _, x := range r.take(size) {
		n = n<<8 | uint64(x)
	}
	if n > math.MaxInt {
		r.spoil()
		return 0
	}
	return int(n)
}

// Bytes reads so many bytes.
func (r *Reader) Bytes(n int) []byte {
	return append([]byte(nil), r.take(n)...)
}

// Text reads a text of at most so many bytes.
func (r *Reader) Text(most int) string {
	n := r.Num()
	if n > most {
		r.spoil()
	}
	return string(r.take(n))
}

// Left is how many bytes were not read.
func (r *Reader) Left() int {
	if r.Bad() {
		return 0
	}
	return len(r.left)
}

// Bad tells whether something else stood there than was asked for.
func (r *Reader) Bad() bool {
	return r == nil || r.bad
}

// Done is OK when all was read, and nothing else stood there.
func (r *Reader) Done() api.Errno {
	if r.Bad() || len(r.left) > 0 {
		return api.ErrCode
	}
	return api.OK
}

// take hands out a piece of what is kept: callers copy it.
func (r *Reader) take(n int) []byte {
	if r.Bad() || n < 0 || n > len(r.left) {
		r.spoil()
		return nil
	}
	b := r.left[:n]
	r.left = r.left[n:]
	return b
}

func (r *Reader) spoil() {
	if r != nil {
		r.bad, r.left = true, nil
	}
}
