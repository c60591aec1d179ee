// Package crc is layer 2: sums that find bursts. See shared/doc/02-crc.md.
package crc

import (
	"bytes"

	"oxbow/api"
)

// halves is what each half of a byte does to the register, the polynomial's bits being turned round: the lowest one is that of x^31.
var halves = [16]uint32{
	0x00000000, 0x1db71064, 0x3b6e20c8, 0x26d930ac,
	0x76dc4190, 0x6b6b51f4, 0x4db26158, 0x5005713c,
	0xedb88320, 0xf00f9344, 0xd6d6a3e8, 0xcb61b38c,
	0x9b64c2b0, 0x86d3d2d4, 0xa00ae278, 0xbdbdf21c,
}

// sumSize is how many bytes a sum has.
const sumSize = 4

// Sum is the sum of bytes.
func Sum(b []byte) uint32 {
	return More(0, b)
}

// More is the sum of a text of that sum with bytes behind it.
func More(sum uint32, b []byte) uint32 {
	register := ^sum
	for _, x := range b {
		register = step(register, x)
	}
	return ^register
}

func step(register uint32, x byte) uint32 {
	register ^= uint32(x)
	register = register>>4 ^ halves[register&15]
	return register>>4 ^ halves[register&15]
}

// Seal is bytes with their sum behind them.
func Seal(b []byte) []byte {
	sum := Sum(b)
	sealed := append([]byte(nil), b...)
	return append(sealed, byte(sum), byte(sum>>8), byte(sum>>16), byte(sum>>24))
}

// Open is what was sealed.
func Open(b []byte) ([]byte, api.Errno) {
	n := len(b) - sumSize
	if n < 0 {
		return nil, api.ErrSum
	}
	sealed := Seal(b[:n])
	if !bytes.Equal(sealed, b) {
		return nil, api.ErrSum
	}
	return sealed[:n], api.OK
}

// Zeros is the sum of a text of that sum with so many bytes of 0 behind it.
func Zeros(sum uint32, n int) uint32 {
	return ^behind(^sum, n)
}

// Join is the sum of a text of the sum a with one of n bytes and the sum b behind it.
func Join(a, b uint32, n int) uint32 {
	if n < 1 {
		return a
	}
	// The turned beginning and end of the register are the same in both sums, and take each other away.
	return behind(a, n) ^ b
}

// behind is the register that so many bytes of 0 make of another one, in as many steps as n has bits.
func behind(register uint32, n int) uint32 {
	for does := oneZero(); n > 0; n >>= 1 {
		if n&1 == 1 {
			register = does.to(register)
		}
		does = does.twice()
	}
	return register
}

// effect is what some bytes of 0 make of each bit of the register alone; what they make of all of it is these taken together.
type effect [32]uint32

func oneZero() effect {
	var f effect
	for i := range f {
		f[i] = step(1<<i, 0)
	}
	return f
}

func (f effect) to(register uint32) uint32 {
	var made uint32
	for i, m := range f {
		if register>>i&1 == 1 {
			made ^= m
		}
	}
	return made
}

func (f effect) twice() effect {
	var g effect
	for i, m := range f {
		g[i] = f.to(m)
	}
	return g
}
