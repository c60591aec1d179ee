package num_test

import (
	"bytes"
	"math"
	"strings"
	"testing"

	"oxbow/api"
	"oxbow/num"
)

// written are numbers, rising, and their bytes as the document has them: both sides of each edge.
var written = []struct {
	n int
	b []byte
}{
	{0, []byte{0}},
	{1, []byte{1}},
	{239, []byte{239}},
	{240, []byte{240, 0}},
	{241, []byte{240, 1}},
	{495, []byte{240, 255}},
	{496, []byte{241, 0}},
	{2031, []byte{246, 255}},
	{2032, []byte{247, 0}},
	{2287, []byte{247, 255}},
	{2288, []byte{248, 8, 240}},
	{1<<16 - 1, []byte{248, 255, 255}},
	{1 << 16, []byte{249, 1, 0, 0}},
	{1<<24 - 1, []byte{249, 255, 255, 255}},
	{1 << 24, []byte{250, 1, 0, 0, 0}},
	{1<<32 - 1, []byte{250, 255, 255, 255, 255}},
	{1 << 32, []byte{251, 1, 0, 0, 0, 0}},
	{1<<40 - 1, []byte{251, 255, 255, 255, 255, 255}},
	{1 << 40, []byte{252, 1, 0, 0, 0, 0, 0}},
	{1<<48 - 1, []byte{252, 255, 255, 255, 255, 255, 255}},
	{1 << 48, []byte{253, 1, 0, 0, 0, 0, 0, 0}},
	{1<<56 - 1, []byte{253, 255, 255, 255, 255, 255, 255, 255}},
	{1 << 56, []byte{254, 1, 0, 0, 0, 0, 0, 0, 0}},
	{0x0123456789abcdef, []byte{254, 0x01, 0x23, 0x45, 0x67, 0x89, 0xab, 0xcd, 0xef}},
	{math.MaxInt, []byte{254, 127, 255, 255, 255, 255, 255, 255, 255}},
}

// wantBad checks that a reader is bad, and stays so whatever is asked.
func wantBad(t *testing.T, r *num.Reader, what any) {
	t.Helper()
	for range 2 {
		if !r.Bad() || r.Left() != 0 || r.Done() != api.ErrCode {
			t.Errorf("%v: bad %v, left %d, done %d", what, r.Bad(), r.Left(), r.Done())
		}
		if n, f, b, s := r.Num(), r.Fixed(1), r.Bytes(0), r.Text(9); n != 0 || f != 0 || len(b) != 0 || s != "" {
			t.Errorf("%v: a bad reader read %d %d %v %q", what, n, f, b, s)
		}
	}
}

func put(t *testing.T, n int) []byte {
	t.Helper()
	b, e := num.Put(n)
	if e != api.OK {
		t.Fatalf("Put(%d): error %d", n, e)
	}
	return b
}

// P1.1: Put, Size.
func TestPutAndSize(t *testing.T) {
	for _, w := range written {
		if b := put(t, w.n); !bytes.Equal(b, w.b) {
			t.Errorf("Put(%d) = %v, want %v", w.n, b, w.b)
		}
		if n := num.Size(w.n); n != len(w.b) {
			t.Errorf("Size(%d) = %d, want %d", w.n, n, len(w.b))
		}
	}
	for _, n := range []int{-1, -240, -1 << 32, math.MinInt} {
		if b, e := num.Put(n); e != api.ErrArg || len(b) != 0 {
			t.Errorf("Put(%d) = %v, %d", n, b, e)
		}
		if s := num.Size(n); s != 0 {
			t.Errorf("Size(%d) = %d", n, s)
		}
	}
}

// P1.1: Fix.
func TestFix(t *testing.T) {
	for _, c := range []struct {
		n, size int
		b       []byte
	}{
		{0, 1, []byte{0}},
		{255, 1, []byte{255}},
		{0, 8, make([]byte, 8)},
		{258, 2, []byte{1, 2}},
		{258, 4, []byte{0, 0, 1, 2}},
		{1<<16 - 1, 2, []byte{255, 255}},
		{0x0102030405060708, 8, []byte{1, 2, 3, 4, 5, 6, 7, 8}},
		{math.MaxInt, 8, []byte{127, 255, 255, 255, 255, 255, 255, 255}},
	} {
		if b, e := num.Fix(c.n, c.size); e != api.OK || !bytes.Equal(b, c.b) {
			t.Errorf("Fix(%d, %d) = %v, %d, want %v", c.n, c.size, b, e, c.b)
		}
	}
	for size := 1; size < 8; size++ {
		most := 1<<(8*size) - 1
		if b, e := num.Fix(most, size); e != api.OK || !bytes.Equal(b, bytes.Repeat([]byte{255}, size)) {
			t.Errorf("Fix(%d, %d) = %v, %d", most, size, b, e)
		}
		if b, e := num.Fix(most+1, size); e != api.ErrArg || len(b) != 0 {
			t.Errorf("Fix(%d, %d) = %v, %d", most+1, size, b, e)
		}
	}
	for _, c := range [][2]int{{-1, 1}, {-1, 8}, {math.MinInt, 8}, {0, 0}, {0, -1}, {0, 9}, {1, 64}, {1, math.MaxInt}, {1, math.MinInt}, {math.MaxInt, 7}} {
		if b, e := num.Fix(c[0], c[1]); e != api.ErrArg || len(b) != 0 {
			t.Errorf("Fix(%d, %d) = %v, %d", c[0], c[1], b, e)
		}
	}
}

// P1.1: Text; P1.2: what it wrote is read, where the text may be so long.
func TestText(t *testing.T) {
	for _, s := range []string{"", "a", "oxbow", "\x00\xff\xf0", strings.Repeat("x", 239), strings.Repeat("y", 240), strings.Repeat("z", 2287), strings.Repeat("w", 2288), strings.Repeat("v", 70000)} {
		b := num.Text(s)
		if want := string(put(t, len(s))) + s; string(b) != want {
			t.Errorf("Text of %d bytes is wrong", len(s))
		}
		for _, most := range []int{len(s), len(s) + 1, math.MaxInt} {
			r := num.From(b)
			if x := r.Text(most); x != s || r.Done() != api.OK {
				t.Errorf("a text of %d bytes is not read with at most %d", len(s), most)
			}
		}
		for _, most := range []int{len(s) - 1, -1, math.MinInt} {
			r := num.From(b)
			if x := r.Text(most); x != "" {
				t.Errorf("a text of %d bytes is read with at most %d", len(s), most)
			}
			wantBad(t, r, most)
		}
	}
}

// P1.2: texts that are not there.
func TestTextWrong(t *testing.T) {
	for _, b := range [][]byte{
		{},
		{1},
		{3, 'a', 'b'},
		{240},
		{240, 0, 'a'},
		{248, 0, 1, 'a'},
		{255, 'a'},
		{254, 127, 255, 255, 255, 255, 255, 255, 255, 'a'},
		{254, 128, 0, 0, 0, 0, 0, 0, 0, 'a'},
	} {
		r := num.From(b)
		if s := r.Text(math.MaxInt); s != "" {
			t.Errorf("%v: %q", b, s)
		}
		wantBad(t, r, b)
	}
}

// P1.2: Num, of numbers that are written as they must be and end too early.
func TestNum(t *testing.T) {
	for _, w := range written {
		r := num.From(append(append([]byte(nil), w.b...), 7))
		if n := r.Num(); n != w.n || r.Bad() || r.Left() != 1 || r.Done() != api.ErrCode {
			t.Errorf("%v: %d, bad %v, left %d", w.b, n, r.Bad(), r.Left())
		}
		if n := r.Num(); n != 7 || r.Done() != api.OK {
			t.Errorf("%v: behind it %d", w.b, n)
		}
		for i := range w.b {
			r := num.From(w.b[:i])
			if n := r.Num(); n != 0 {
				t.Errorf("%v: %d", w.b[:i], n)
			}
			wantBad(t, r, w.b[:i])
		}
	}
}

// P1.2: Num, of numbers that are not written as they must be.
func TestNumWrong(t *testing.T) {
	wrong := [][]byte{
		{255},
		{255, 1, 1, 1, 1, 1, 1, 1, 1, 1},
		{248, 0, 0},
		{248, 0, 239},
		{248, 0, 240},
		{248, 8, 239},
		{249, 0, 8, 240},
		{254, 128, 0, 0, 0, 0, 0, 0, 0},
		{254, 255, 255, 255, 255, 255, 255, 255, 255},
	}
	for size := 3; size <= 8; size++ { // a byte less would do
		wrong = append(wrong, append([]byte{byte(246 + size), 0}, bytes.Repeat([]byte{255}, size-1)...))
	}
	for _, b := range wrong {
		r := num.From(append(b, b...))
		if n := r.Num(); n != 0 {
			t.Errorf("%v: %d", b, n)
		}
		wantBad(t, r, b)
	}
}

// P1.2: of all that begins with any two bytes, or is a number of two bytes behind its first one, just what Put writes is read.
func TestNumAll(t *testing.T) {
	check := func(b []byte) {
		r := num.From(b)
		n := r.Num()
		if r.Bad() {
			if n != 0 {
				t.Fatalf("%v: bad, and %d", b, n)
			}
			return
		}
		if w, e := num.Put(n); e != api.OK || !bytes.Equal(w, b[:len(b)-r.Left()]) {
			t.Fatalf("%v: read as %d, which is %v", b, n, w)
		}
	}
	for i := range 1 << 16 {
		check([]byte{byte(i >> 8), byte(i)})
		check([]byte{248, byte(i >> 8), byte(i)})
		check([]byte{249, byte(i >> 8), byte(i), 5})
	}
}

// P1.2: Fixed.
func TestFixed(t *testing.T) {
	b := []byte{1, 2, 3, 4, 5, 6, 7, 8}
	want := 0
	for size := 1; size <= 8; size++ {
		want = want<<8 | size
		r := num.From(b)
		if n := r.Fixed(size); n != want || r.Bad() || r.Left() != 8-size {
			t.Errorf("Fixed(%d) = %d, left %d", size, n, r.Left())
		}
		r = num.From(b[:size-1])
		if n := r.Fixed(size); n != 0 {
			t.Errorf("Fixed(%d) of too few = %d", size, n)
		}
		wantBad(t, r, size)
	}
	for _, size := range []int{0, -1, 9, 64, math.MaxInt, math.MinInt} {
		r := num.From(make([]byte, 80))
		if n := r.Fixed(size); n != 0 {
			t.Errorf("Fixed(%d) = %d", size, n)
		}
		wantBad(t, r, size)
	}
	if r := num.From([]byte{127, 255, 255, 255, 255, 255, 255, 255}); r.Fixed(8) != math.MaxInt || r.Done() != api.OK {
		t.Error("the greatest fixed number")
	}
	for _, first := range []byte{128, 255} {
		r := num.From([]byte{first, 0, 0, 0, 0, 0, 0, 1, 1})
		if n := r.Fixed(8); n != 0 {
			t.Errorf("a fixed number that is too great: %d", n)
		}
		wantBad(t, r, first)
	}
}

// P1.2: Bytes.
func TestBytes(t *testing.T) {
	b := []byte{9, 8, 7}
	for n := range len(b) + 1 {
		r := num.From(b)
		if x := r.Bytes(n); !bytes.Equal(x, b[:n]) || r.Bad() || r.Left() != len(b)-n {
			t.Errorf("Bytes(%d) = %v, left %d", n, x, r.Left())
		}
	}
	for _, n := range []int{-1, 4, math.MaxInt, math.MinInt} {
		r := num.From(b)
		if x := r.Bytes(n); len(x) != 0 {
			t.Errorf("Bytes(%d) = %v", n, x)
		}
		wantBad(t, r, n)
	}
}

// P1.2: Left, Bad and Done change nothing, and nothing is read of no bytes.
func TestLeftBadDone(t *testing.T) {
	r := num.From([]byte{1, 2, 3, 2, 'a', 'b', 240, 5})
	for i, c := range []struct{ got, want int }{
		{r.Left(), 8}, {r.Fixed(2), 258}, {r.Left(), 6}, {len(r.Bytes(1)), 1}, {r.Left(), 5}, {len(r.Text(2)), 2}, {r.Left(), 2},
		{int(r.Done()), int(api.ErrCode)}, {r.Num(), 245}, {r.Left(), 0}, {int(r.Done()), int(api.OK)},
	} {
		if c.got != c.want {
			t.Errorf("%d: %d, want %d", i, c.got, c.want)
		}
	}
	if r.Bad() || len(r.Bytes(0)) != 0 || r.Bad() {
		t.Error("bad, though nothing was wrong")
	}
	if r.Num(); !r.Bad() {
		t.Error("not bad behind the end")
	}
	wantBad(t, r, "behind the end")
	for _, b := range [][]byte{nil, {}} {
		if r := num.From(b); r == nil || r.Bad() || r.Left() != 0 || r.Done() != api.OK {
			t.Error("a reader of nothing")
		}
	}
}

// P1.2: a reader is bad behind any call that met something else, though bytes that would fit are left.
func TestStaysBad(t *testing.T) {
	for i, meet := range []func(r *num.Reader){
		func(r *num.Reader) { r.Fixed(0) },
		func(r *num.Reader) { r.Bytes(-1) },
		func(r *num.Reader) { r.Bytes(100) },
		func(r *num.Reader) { r.Text(0) },
		func(r *num.Reader) { r.Fixed(1); r.Num() },
	} {
		r := num.From([]byte{1, 255, 1, 1, 1, 1, 1, 1, 1, 1, 1})
		meet(r)
		wantBad(t, r, i)
	}
}

// P1.2: a nil reader, which never panics (R1).
func TestNilReader(t *testing.T) {
	var r *num.Reader
	wantBad(t, r, "nil")
	if r.Fixed(9) != 0 || len(r.Bytes(-1)) != 0 || r.Text(-1) != "" {
		t.Error("a nil reader read")
	}
}

// P1.3: what was put is read, one behind the other.
func TestReadBack(t *testing.T) {
	var b []byte
	for _, w := range written {
		b = append(b, put(t, w.n)...)
		fixed, _ := num.Fix(w.n, 8)
		b = append(b, fixed...)
		b = append(b, num.Text(string(w.b))...)
	}
	r := num.From(b)
	for _, w := range written {
		if n, f, s := r.Num(), r.Fixed(8), r.Text(9); n != w.n || f != w.n || s != string(w.b) {
			t.Errorf("%d: %d %d %q", w.n, n, f, s)
		}
	}
	if r.Done() != api.OK {
		t.Error("not all was read")
	}
	for n := range 1 << 17 {
		r := num.From(put(t, n))
		if x := r.Num(); x != n || r.Done() != api.OK {
			t.Fatalf("%d is read as %d", n, x)
		}
	}
}

// P1.3: the bytes stand in the order of the numbers, and none begins another one.
func TestOrder(t *testing.T) {
	for i, a := range written {
		for _, b := range written[i+1:] {
			x, y := put(t, a.n), put(t, b.n)
			if bytes.Compare(x, y) >= 0 || bytes.HasPrefix(y, x) || bytes.HasPrefix(x, y) {
				t.Errorf("%d, %d: %v, %v", a.n, b.n, x, y)
			}
		}
	}
	was := put(t, 0)
	for n := 1; n < 1<<17; n++ {
		b := put(t, n)
		if bytes.Compare(was, b) >= 0 || bytes.HasPrefix(b, was) {
			t.Fatalf("%d: %v behind %v", n, b, was)
		}
		was = b
	}
}

// R3: a reader keeps nothing of what was handed in, and changes neither it nor the room behind it.
func TestReaderKeepsNothing(t *testing.T) {
	room := []byte{2, 'a', 'b', 5, 77, 78}
	b := room[:4]
	r := num.From(b)
	room[1], room[3] = 'x', 6
	if s, n := r.Text(2), r.Num(); s != "ab" || n != 5 || r.Done() != api.OK {
		t.Errorf("a reader follows its argument: %q %d", s, n)
	}
	if !bytes.Equal(room, []byte{2, 'x', 'b', 6, 77, 78}) {
		t.Errorf("an argument was changed: %v", room)
	}
}

// R3: answers are new memory, spare room and all.
func TestAnswersAreNew(t *testing.T) {
	b := []byte{1, 2, 3, 4}
	r := num.From(b)
	x := r.Bytes(2)
	x = append(x[:1], 90, 91, 92)
	y := r.Bytes(2)
	if !bytes.Equal(y, []byte{3, 4}) || !bytes.Equal(b, []byte{1, 2, 3, 4}) || x[0] != 1 {
		t.Errorf("an answer is shared: %v %v %v", x, y, b)
	}
	for _, answer := range []func() []byte{
		func() []byte { b, _ := num.Put(5); return b },
		func() []byte { b, _ := num.Put(5000); return b },
		func() []byte { b, _ := num.Fix(5, 3); return b },
		func() []byte { return num.Text("five") },
	} {
		first := answer()
		want := string(first)
		for i := range first[:cap(first)] {
			first[:cap(first)][i] = 99
		}
		if again := answer(); string(again) != want {
			t.Errorf("%q behind a change of the answer is %q", want, again)
		}
	}
}

// R4: readers do not touch each other.
func TestReadersApart(t *testing.T) {
	b := []byte{1, 2, 3}
	p, q := num.From(b), num.From(b)
	p.Bytes(9)
	if q.Bad() || q.Num() != 1 || q.Left() != 2 || !p.Bad() {
		t.Error("one reader touched the other")
	}
}
