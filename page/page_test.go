package page_test

import (
	"bytes"
	"math/rand"
	"slices"
	"testing"

	"oxbow/api"
	"oxbow/crc"
	"oxbow/num"
	"oxbow/page"
)

var badTags = []int{0, -1, -1 << 63, api.MaxTag + 1, 1<<63 - 1}

// some is so many bytes, none of them 0.
func some(n int) []byte {
	b := make([]byte, n)
	for i := range b {
		b[i] = byte(1 + (7*i+n)%255)
	}
	return b
}

func put(t *testing.T, tag int, b []byte) []byte {
	t.Helper()
	s, errno := page.Put(tag, b)
	if errno != api.OK {
		t.Fatal("Put", tag, b, errno)
	}
	return s
}

func row(t *testing.T, tag int, b []byte) [][]byte {
	t.Helper()
	l, errno := page.Row(tag, b)
	if errno != api.OK {
		t.Fatal("Row", tag, len(b), errno)
	}
	return l
}

// sealed is a sector with a sum that fits, of any tag, size and bytes.
func sealed(tag int, size byte, held []byte) []byte {
	fixed, _ := num.Fix(tag, 8)
	return slices.Concat(crc.Seal(slices.Concat(fixed, []byte{size}, held)), fixed)
}

func refused(t *testing.T, what any, b []byte, errno, want api.Errno) {
	t.Helper()
	if b != nil || errno != want {
		t.Errorf("%v: %v %d, not %d", what, b, errno, want)
	}
}

// P6.1: a page's bytes, one by one.
func TestPutBytes(t *testing.T) {
	s := put(t, 0x0102030405060708, []byte("123456789"))
	head := append([]byte{1, 2, 3, 4, 5, 6, 7, 8, 9}, "123456789"...)
	head = append(head, make([]byte, 34)...)
	sum := crc.Sum(head)
	want := append(head, byte(sum), byte(sum>>8), byte(sum>>16), byte(sum>>24), 1, 2, 3, 4, 5, 6, 7, 8)
	if !bytes.Equal(s, want) || len(s) != api.Sector {
		t.Errorf("%v\n%v", s, want)
	}
}

// P6.1: Put and Get of all lengths, at both ends of the tags.
func TestPutGet(t *testing.T) {
	for _, tag := range []int{1, 2, 255, 256, 1 << 40, api.MaxTag - 1, api.MaxTag} {
		for n := range api.Payload + 1 {
			for _, b := range [][]byte{some(n), make([]byte, n)} {
				s := put(t, tag, b)
				if got, errno := page.Get(s, tag); errno != api.OK || !bytes.Equal(got, b) || len(s) != api.Sector {
					t.Error(tag, n, got, errno)
				}
				if got, is := page.Tag(s); got != tag || !is {
					t.Error(tag, got, is)
				}
			}
		}
	}
}

// P6.1: what Put refuses, and in which order.
func TestPutRefuses(t *testing.T) {
	for _, tag := range badTags {
		b, errno := page.Put(tag, nil)
		refused(t, tag, b, errno, api.ErrArg)
		b, errno = page.Put(tag, some(99))
		refused(t, tag, b, errno, api.ErrArg)
	}
	for _, n := range []int{api.Payload + 1, 64, 255, 256, 300} {
		b, errno := page.Put(1, some(n))
		refused(t, n, b, errno, api.ErrLong)
	}
}

// P6.1: what is a page of another tag, or of none.
func TestGetTags(t *testing.T) {
	s := put(t, 7, some(5))
	for _, tag := range append([]int{6, 8, 7 << 8, 7 << 56, api.MaxTag}, badTags...) {
		b, errno := page.Get(s, tag)
		refused(t, tag, b, errno, api.ErrPage)
	}
	for _, n := range []int{0, 8, 16, 63, 65, 128} {
		b, errno := page.Get(append(s, s...)[:n], 7)
		refused(t, n, b, errno, api.ErrPage)
		if tag, is := page.Tag(append(s, s...)[:n]); tag != 0 || is {
			t.Error(n, tag, is)
		}
	}
	for _, tag := range []int{0, api.MaxTag + 1, 1<<63 - 1} {
		b, errno := page.Get(sealed(tag, 0, make([]byte, 43)), tag)
		refused(t, tag, b, errno, api.ErrPage)
		if got, is := page.Tag(sealed(tag, 0, make([]byte, 43))); got != 0 || is {
			t.Error(tag, got, is)
		}
	}
	for _, i := range []int{0, 7, 56, 63} {
		odd := slices.Clone(s)
		odd[i] ^= 4
		b, errno := page.Get(odd, 7)
		refused(t, i, b, errno, api.ErrPage)
		if got, is := page.Tag(odd); got != 0 || is {
			t.Error(i, got, is)
		}
	}
	high := slices.Repeat([]byte{255}, api.Sector)
	if got, is := page.Tag(high); got != 0 || is {
		t.Error(got, is)
	}
}

// P6.1: Tag looks at both ends alone.
func TestTagOfNoPage(t *testing.T) {
	s := put(t, 300, some(5))
	clear(s[8:56])
	if got, is := page.Tag(s); got != 300 || !is {
		t.Error(got, is)
	}
	b, errno := page.Get(s, 300)
	refused(t, "no sum", b, errno, api.ErrSum)
}

// P6.1: the tag is right, and it is no page all the same.
func TestGetSum(t *testing.T) {
	good := put(t, 7, some(20))
	for i := 8; i < 56; i++ {
		for k := range 8 {
			odd := slices.Clone(good)
			odd[i] ^= 1 << k
			b, errno := page.Get(odd, 7)
			refused(t, i, b, errno, api.ErrSum)
		}
	}
	held := make([]byte, 43)
	if b, errno := page.Get(sealed(7, 43, held), 7); errno != api.OK || len(b) != 43 {
		t.Error(b, errno)
	}
	for _, size := range []byte{44, 45, 55, 56, 64, 255} {
		b, errno := page.Get(sealed(7, size, held), 7)
		refused(t, size, b, errno, api.ErrSum)
	}
	for i := range held {
		held[i] = 1
		for size := range 44 {
			b, errno := page.Get(sealed(7, byte(size), held), 7)
			if size > i != (errno == api.OK) {
				t.Error(size, i, b, errno)
			}
		}
		held[i] = 0
	}
}

// P6.2: which pages a row has.
func TestRow(t *testing.T) {
	for _, c := range []struct {
		n     int
		sizes []int
	}{
		{0, []int{0}}, {1, []int{1}}, {41, []int{41}}, {42, []int{42}}, {43, []int{42, 1}}, {83, []int{42, 41}}, {84, []int{42, 42}}, {85, []int{42, 42, 1}}, {126, []int{42, 42, 42}},
	} {
		b := some(c.n)
		l := row(t, 9, b)
		if len(l) != len(c.sizes) {
			t.Fatal(c.n, len(l))
		}
		for i, size := range c.sizes {
			first := byte(1)
			if i == len(c.sizes)-1 {
				first = 0
			}
			if !bytes.Equal(l[i], put(t, 9+i, append([]byte{first}, b[:size]...))) {
				t.Error(c.n, i, l[i])
			}
			b = b[size:]
		}
	}
}

// P6.2, example 1: a row of no bytes is one page, which holds the byte 0.
func TestExample(t *testing.T) {
	for _, b := range [][]byte{nil, {}} {
		if l := row(t, 5, b); len(l) != 1 || !bytes.Equal(l[0], put(t, 5, []byte{0})) {
			t.Error(l)
		}
	}
}

// P6.2: the greatest row, and its last tag.
func TestRowEdges(t *testing.T) {
	pages := (1<<16 + 41) / 42
	b := some(1 << 16)
	for _, tag := range []int{1, api.MaxTag - pages + 1} {
		l := row(t, tag, b)
		if len(l) != pages {
			t.Error(len(l))
		}
		if got, n, errno := page.Unrow(l, tag); errno != api.OK || n != pages || !bytes.Equal(got, b) {
			t.Error(tag, n, errno)
		}
	}
	for _, c := range []struct {
		tag, n int
		want   api.Errno
	}{
		{api.MaxTag - pages + 2, 1 << 16, api.ErrArg},
		{api.MaxTag, 43, api.ErrArg}, {api.MaxTag - 1, 85, api.ErrArg}, {api.MaxTag, 1 << 17, api.ErrArg},
		{1, 1<<16 + 1, api.ErrLong}, {1, 1 << 17, api.ErrLong},
	} {
		if l, errno := page.Row(c.tag, some(c.n)); l != nil || errno != c.want {
			t.Error(c.tag, c.n, errno)
		}
	}
	for _, tag := range badTags {
		for _, n := range []int{0, 43, 1 << 17} {
			if l, errno := page.Row(tag, some(n)); l != nil || errno != api.ErrArg {
				t.Error(tag, n, errno)
			}
		}
	}
	for tag, n := range map[int]int{api.MaxTag: 42, api.MaxTag - 1: 84} {
		if got, _, errno := page.Unrow(row(t, tag, some(n)), tag); errno != api.OK || !bytes.Equal(got, some(n)) {
			t.Error(tag, errno)
		}
	}
}

// P6.2: a row is read again, whatever stands behind it.
func TestUnrow(t *testing.T) {
	for n := range 300 {
		b := some(n)
		l := row(t, 3, b)
		for _, behind := range [][][]byte{nil, {nil}, {put(t, 3+len(l), nil)}, row(t, 3+len(l), b), {make([]byte, 64)}} {
			if got, pages, errno := page.Unrow(slices.Concat(l, behind), 3); errno != api.OK || pages != len(l) || !bytes.Equal(got, b) {
				t.Error(n, got, pages, errno)
			}
		}
	}
}

// P6.2: what Unrow refuses.
func TestUnrowRefuses(t *testing.T) {
	l := row(t, 3, some(100))
	last := put(t, 4, []byte{0, 5})
	for what, c := range map[string]struct {
		l    [][]byte
		tag  int
		want api.Errno
	}{
		"nothing":               {nil, 3, api.ErrNone},
		"nothing, no tag":       {nil, 0, api.ErrNone},
		"one page of three":     {l[:1], 3, api.ErrNone},
		"two pages of three":    {l[:2], 3, api.ErrNone},
		"another tag":           {l, 4, api.ErrPage},
		"tag 0":                 {l, 0, api.ErrPage},
		"a tag below 0":         {l, -1 << 63, api.ErrPage},
		"too great a tag":       {l, 1<<63 - 1, api.ErrPage},
		"the second one gone":   {[][]byte{l[0], l[2]}, 3, api.ErrPage},
		"a short sector":        {[][]byte{l[0], l[1][:63]}, 3, api.ErrPage},
		"no sector":             {[][]byte{nil}, 3, api.ErrPage},
		"a bad sum":             {[][]byte{l[0], turned(l[1], 70)}, 3, api.ErrSum},
		"a bad sum, and no end": {[][]byte{turned(l[0], 70)}, 3, api.ErrSum},
		"a page without bytes":  {[][]byte{put(t, 3, nil), last}, 3, api.ErrSum},
		"only such a page":      {[][]byte{put(t, 3, nil)}, 3, api.ErrSum},
		"first byte 2":          {[][]byte{put(t, 3, append([]byte{2}, some(42)...)), last}, 3, api.ErrSum},
		"first byte 255":        {[][]byte{put(t, 3, []byte{255})}, 3, api.ErrSum},
		"41 bytes, not last":    {[][]byte{put(t, 3, append([]byte{1}, some(41)...)), last}, 3, api.ErrSum},
		"0 bytes, not last":     {[][]byte{put(t, 3, []byte{1}), last}, 3, api.ErrSum},
		"the last tag's next":   {[][]byte{put(t, api.MaxTag, append([]byte{1}, some(42)...)), last}, api.MaxTag, api.ErrPage},
	} {
		if b, n, errno := page.Unrow(c.l, c.tag); b != nil || n != 0 || errno != c.want {
			t.Error(what, b, n, errno)
		}
	}
	if b, n, errno := page.Unrow([][]byte{put(t, 3, append([]byte{1}, some(42)...)), last}, 3); errno != api.OK || n != 2 || !bytes.Equal(b, append(some(42), 5)) {
		t.Error(b, n, errno)
	}
}

// turned is a sector of which one bit is turned.
func turned(s []byte, bit int) []byte {
	s = slices.Clone(s)
	s[bit/8] ^= 1 << (bit % 8)
	return s
}

// P6.3: a page over another one, of which just the first bytes are kept.
func TestTorn(t *testing.T) {
	r := rand.New(rand.NewSource(6))
	for range 300 {
		tags := [2]int{1 + r.Intn(api.MaxTag), 1 + r.Intn(api.MaxTag)}
		switch r.Intn(3) {
		case 0:
			tags[1] = tags[0]
		case 1:
			tags[1] = tags[0]%256 + 1
		}
		old, new := put(t, tags[0], some(r.Intn(44))), put(t, tags[1], some(r.Intn(44)))
		for n := range api.Sector + 1 {
			s := slices.Concat(new[:n], old[n:])
			for i, whole := range [][]byte{old, new} {
				if _, errno := page.Get(s, tags[i]); (errno == api.OK) != (bytes.Equal(s, whole) || tags[0] == tags[1] && (bytes.Equal(s, old) || bytes.Equal(s, new))) {
					t.Error(tags, n, i, errno)
				}
			}
		}
	}
	// Over a sector that was not there.
	for n := range api.Sector {
		s := append(put(t, 9, some(43))[:n:n], make([]byte, api.Sector-n)...)
		b, errno := page.Get(s, 9)
		refused(t, n, b, errno, api.ErrPage)
	}
}

// P6.3: bits that are turned within 32 in a row.
func TestTurned(t *testing.T) {
	r := rand.New(rand.NewSource(7))
	for range 20 {
		tag := 1 + r.Intn(api.MaxTag)
		s := put(t, tag, some(r.Intn(44)))
		for at := 0; at <= 480; at++ {
			for _, turn := range []uint32{1, 1<<31 | 1, 1 << 31, 1<<32 - 1, r.Uint32() | 1} {
				odd := s
				for j := range 32 {
					if turn>>j&1 == 1 {
						odd = turned(odd, at+j)
					}
				}
				if b, errno := page.Get(odd, tag); b != nil || errno == api.OK {
					t.Fatal(tag, at, turn, b, errno)
				}
			}
		}
	}
}

// R3: nothing that is handed in is changed, nothing is shared.
func TestSharesNothing(t *testing.T) {
	b := append(some(43), 99, 99)
	kept := slices.Clone(b)
	s := put(t, 3, b[:43])
	got, _ := page.Get(s, 3)
	clear(b[:43])
	whole := slices.Clone(s)
	clear(got[:cap(got)])
	if !bytes.Equal(s, whole) || b[43] != 99 || b[44] != 99 {
		t.Error("Put, Get")
	}
	again := put(t, 3, kept[:43])
	clear(s[:cap(s)])
	if got, errno := page.Get(again, 3); errno != api.OK || !bytes.Equal(got, kept[:43]) {
		t.Error("Put shares", got, errno)
	}
	long := append(some(100), 99, 99)
	l := row(t, 3, long[:100])
	if !bytes.Equal(long, append(some(100), 99, 99)) {
		t.Error("Row changed what was handed in")
	}
	clear(long)
	first := slices.Clone(l[0])
	clear(l[1][:cap(l[1])])
	if !bytes.Equal(l[0], first) {
		t.Error("a row's pages share memory")
	}
	clear(l[0][:cap(l[0])])
	l = row(t, 3, some(100))
	all, _, _ := page.Unrow(l, 3)
	clear(all[:cap(all)])
	if got, _, errno := page.Unrow(l, 3); errno != api.OK || !bytes.Equal(got, some(100)) {
		t.Error("Unrow shares")
	}
}
