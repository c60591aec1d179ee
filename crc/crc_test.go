package crc_test

import (
	"bytes"
	"math"
	"testing"

	"oxbow/api"
	"oxbow/crc"
)

// powers are those of the document's polynomial, but for x^32.
var powers = []int{26, 23, 22, 16, 12, 11, 10, 8, 7, 5, 4, 2, 1, 0}

// slow is the sum bit by bit, as the document says it.
func slow(b []byte) uint32 {
	var polynomial uint32
	for _, p := range powers {
		polynomial |= 1 << (31 - p)
	}
	register := uint32(math.MaxUint32)
	for _, x := range b {
		for k := range 8 {
			out := register&1 != uint32(x>>k&1)
			register >>= 1
			if out {
				register ^= polynomial
			}
		}
	}
	return ^register
}

// noise is a row of bytes without much order, the same in each run.
func noise(n int) []byte {
	b := make([]byte, n)
	x := uint32(2463534242)
	for i := range b {
		x ^= x << 13
		x ^= x >> 17
		x ^= x << 5
		b[i] = byte(x >> 8)
	}
	return b
}

// P2.1: Sum, of known texts and against the slow one. P2.3: the sum of nothing is 0.
func TestSum(t *testing.T) {
	for s, want := range map[string]uint32{
		"":                 0,
		"a":                0xe8b7be43,
		"abc":              0x352441c2,
		"123456789":        0xcbf43926,
		"\x00":             0xd202ef8d,
		"\x00\x00\x00\x00": 0x2144df1c,
		"\xff\xff\xff\xff": 0xffffffff,
		"The quick brown fox jumps over the lazy dog": 0x414fa339,
	} {
		if x := crc.Sum([]byte(s)); x != want {
			t.Errorf("%q: %x, want %x", s, x, want)
		}
	}
	if crc.Sum(nil) != 0 || crc.Sum([]byte{}) != 0 {
		t.Error("the sum of nothing")
	}
	for i := range 256 {
		if b := []byte{byte(i)}; crc.Sum(b) != slow(b) {
			t.Errorf("%v: %x, want %x", b, crc.Sum(b), slow(b))
		}
	}
	b := noise(3000)
	for n := 0; n <= len(b); n += 7 {
		if x := crc.Sum(b[:n]); x != slow(b[:n]) {
			t.Errorf("%d bytes: %x, want %x", n, x, slow(b[:n]))
		}
	}
}

// P2.1: More.
func TestMore(t *testing.T) {
	b := noise(300)
	for i := range len(b) + 1 {
		if x := crc.More(slow(b[:i]), b[i:]); x != slow(b) {
			t.Errorf("%d: %x", i, x)
		}
	}
	for _, sum := range []uint32{0, 1, 0xcbf43926, math.MaxUint32} {
		if x := crc.More(sum, nil); x != sum {
			t.Errorf("%x and nothing: %x", sum, x)
		}
	}
}

// P2.1: Seal, whose sum stands behind, lowest byte first, and Open of it.
func TestSealOpen(t *testing.T) {
	if s := crc.Seal([]byte("123456789")); string(s) != "123456789\x26\x39\xf4\xcb" {
		t.Errorf("%q", s)
	}
	if s := crc.Seal(nil); string(s) != "\x00\x00\x00\x00" {
		t.Errorf("nothing sealed: %q", s)
	}
	b := noise(600)
	for n := 0; n <= len(b); n += 3 {
		s := crc.Seal(b[:n])
		sum := slow(b[:n])
		if len(s) != n+4 || !bytes.Equal(s[:n], b[:n]) || s[n] != byte(sum) || s[n+1] != byte(sum>>8) || s[n+2] != byte(sum>>16) || s[n+3] != byte(sum>>24) {
			t.Errorf("%d bytes are sealed as %v", n, s)
		}
		if x, e := crc.Open(s); e != api.OK || !bytes.Equal(x, b[:n]) {
			t.Errorf("%d bytes: error %d", n, e)
		}
	}
}

// P2.1: Open, of bytes that are not sealed.
func TestOpenWrong(t *testing.T) {
	sealed := crc.Seal([]byte("123456789"))
	for _, b := range [][]byte{
		nil,
		{},
		{0},
		{0, 0},
		{0, 0, 0},
		{0, 0, 0, 1},
		{255, 255, 255, 255},
		[]byte("123456789\xcb\xf4\x39\x26"), // highest byte first
		sealed[:len(sealed)-1],
		sealed[1:],
		append(append([]byte(nil), sealed...), 0),
	} {
		if x, e := crc.Open(b); e != api.ErrSum || len(x) != 0 {
			t.Errorf("%v: %v, %d", b, x, e)
		}
	}
}

// P2.2: Zeros, against More.
func TestZeros(t *testing.T) {
	none := make([]byte, 5000)
	for _, sum := range []uint32{0, 1, 0x80000000, 0xcbf43926, 0xdeadbeef, math.MaxUint32} {
		for _, n := range []int{1, 2, 3, 4, 5, 7, 8, 63, 64, 255, 256, 1023, 4096, 5000} {
			if x, want := crc.Zeros(sum, n), crc.More(sum, none[:n]); x != want {
				t.Errorf("Zeros(%x, %d) = %x, want %x", sum, n, x, want)
			}
		}
		for _, n := range []int{0, -1, -4, math.MinInt} {
			if x := crc.Zeros(sum, n); x != sum {
				t.Errorf("Zeros(%x, %d) = %x", sum, n, x)
			}
		}
	}
}

// P2.2: Zeros of any number: of numbers added, and behind 2^32 - 1 bytes, where the register is what it was.
func TestZerosOfMany(t *testing.T) {
	const again = 1<<32 - 1
	for _, sum := range []uint32{0, 9, 0xcbf43926} {
		for _, c := range [][2]int{{1000, 1 << 40}, {1<<31 - 1, 1}, {1 << 62, 1<<62 - 1}, {12345, 67890}} {
			if x, want := crc.Zeros(crc.Zeros(sum, c[0]), c[1]), crc.Zeros(sum, c[0]+c[1]); x != want {
				t.Errorf("%x: %d and %d: %x, want %x", sum, c[0], c[1], x, want)
			}
		}
		if x := crc.Zeros(sum, again); x != sum {
			t.Errorf("%x behind all: %x", sum, x)
		}
		for _, n := range []int{1 << 32, 1<<40 + 3, 1 << 62, math.MaxInt} {
			if x, want := crc.Zeros(sum, n), crc.Zeros(sum, n%again); x != want {
				t.Errorf("%x and %d: %x, want %x", sum, n, x, want)
			}
		}
		if x, want := crc.Zeros(sum, 1<<20+5), crc.More(sum, make([]byte, 1<<20+5)); x != want {
			t.Errorf("%x: %x, want %x", sum, x, want)
		}
	}
}

// P2.2: Join.
func TestJoin(t *testing.T) {
	b := noise(2000)
	for i := 0; i < len(b); i += 13 {
		if x := crc.Join(slow(b[:i]), slow(b[i:]), len(b)-i); x != slow(b) {
			t.Errorf("%d: %x", i, x)
		}
	}
	if x := crc.Join(slow(b), slow(b[:1]), 1); x != slow(append(append([]byte(nil), b...), b[0])) {
		t.Errorf("one byte: %x", x)
	}
	for _, n := range []int{0, -1, math.MinInt} {
		for _, behind := range []uint32{0, 1, math.MaxUint32} {
			if x := crc.Join(0xcbf43926, behind, n); x != 0xcbf43926 {
				t.Errorf("%d bytes of the sum %x: %x", n, behind, x)
			}
		}
	}
	const many = 1 << 50
	if x, want := crc.Join(7, crc.Zeros(0, many), many), crc.Zeros(7, many); x != want {
		t.Errorf("many bytes of 0: %x, want %x", x, want)
	}
}

// turn turns the bits of b from at on that burst has, the lowest ones first.
func turn(b []byte, at int, burst uint32) {
	for k := range 32 {
		if burst>>k&1 == 1 {
			b[(at+k)/8] ^= 1 << ((at + k) % 8)
		}
	}
}

// P2.3: no burst of 32 bits is missed: each short one, and of longer ones many, at each bit, in what was sealed and in the sum.
func TestBursts(t *testing.T) {
	var bursts []uint32
	for x := uint32(1); x < 256; x += 2 {
		bursts = append(bursts, x)
	}
	for i, x := range noise(60) {
		width := 9 + i%24
		bursts = append(bursts, 1|1<<(width-1)|uint32(x)*0x01010101&(1<<(width-1)-1))
	}
	bursts = append(bursts, math.MaxUint32, 0x80000001, 0xedb88320|1, 0x04c11db7)
	for _, n := range []int{0, 1, 4, 20, 60} {
		s := crc.Seal(noise(n))
		for _, burst := range bursts {
			for at := range 8 * len(s) {
				if at+32 > 8*len(s) && burst>>(8*len(s)-at) != 0 {
					continue // it would go beyond the end
				}
				turn(s, at, burst)
				if x, e := crc.Open(s); e != api.ErrSum || len(x) != 0 {
					t.Fatalf("%d bytes, %x turned at %d: %v, %d", n, burst, at, x, e)
				}
				turn(s, at, burst)
			}
		}
		if _, e := crc.Open(s); e != api.OK {
			t.Errorf("%d bytes, turned back: %d", n, e)
		}
	}
}

// R3: what is handed in is not changed, nor the room behind it, and answers are new memory.
func TestNothingIsShared(t *testing.T) {
	room := []byte("abcdefghijkl")
	b := room[:5]
	s := crc.Seal(b)
	if string(room) != "abcdefghijkl" {
		t.Errorf("Seal changed the room behind its argument: %q", room)
	}
	for i := range s[:cap(s)] {
		s[:cap(s)][i] = 0
	}
	if string(room) != "abcdefghijkl" {
		t.Errorf("what Seal answers is its argument's: %q", room)
	}

	sealed := crc.Seal([]byte("abcde"))
	want := string(sealed)
	x, _ := crc.Open(sealed)
	for i := range x[:cap(x)] {
		x[:cap(x)][i] = 0
	}
	if string(sealed) != want {
		t.Errorf("what Open answers is its argument's: %q", sealed)
	}
	crc.Sum(b)
	crc.More(3, b)
	if string(room) != "abcdefghijkl" {
		t.Errorf("a sum changed its argument: %q", room)
	}
}
