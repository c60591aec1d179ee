package entry_test

import (
	"bytes"
	"cmp"
	"math"
	"math/rand"
	"slices"
	"testing"

	"oxbow/api"
	"oxbow/entry"
	"oxbow/num"
)

// of makes entries of epochs, rounds, keys and values, in turns.
func of(n ...int) []api.Entry {
	var l []api.Entry
	for i := 0; i < len(n); i += 4 {
		l = append(l, api.Entry{At: api.Moment{Epoch: n[i], Round: n[i+1]}, Rec: api.Rec{Key: n[i+2], Val: n[i+3]}})
	}
	return l
}

const (
	lastMoment = api.MaxEpoch - 1
	low, high  = math.MinInt, math.MaxInt
)

// edges are entries that may be, in order.
var edges = of(
	0, 0, 0, 0,
	0, 0, 0, 1,
	0, 0, 0, api.MaxNum,
	0, 0, 1, 0,
	0, 0, api.MaxNum, api.MaxNum,
	0, 1, 0, 0,
	0, lastMoment, 0, 0,
	1, 0, 239, 240,
	1, 2, 3, 4,
	239, 240, 2287, 2288,
	240, 2288, 65535, 65536,
	2287, 0, 0, 0,
	65535, 0, 5, 5,
	lastMoment, lastMoment, api.MaxNum, api.MaxNum,
)

// wrong are entries that may not be, and what is refused of each: its moment ahead of its record.
var wrong = []struct {
	e    api.Entry
	want api.Errno
}{
	{of(-1, 0, 0, 0)[0], api.ErrMoment},
	{of(0, -1, 0, 0)[0], api.ErrMoment},
	{of(api.MaxEpoch, 0, 0, 0)[0], api.ErrMoment},
	{of(0, api.MaxRound, 0, 0)[0], api.ErrMoment},
	{of(low, 0, 0, 0)[0], api.ErrMoment},
	{of(0, high, 0, 0)[0], api.ErrMoment},
	{of(-1, 0, -1, 0)[0], api.ErrMoment},
	{of(0, api.MaxRound, 0, api.MaxNum+1)[0], api.ErrMoment},
	{of(0, 0, -1, 0)[0], api.ErrRec},
	{of(0, 0, 0, -1)[0], api.ErrRec},
	{of(0, 0, api.MaxNum+1, 0)[0], api.ErrRec},
	{of(0, 0, 0, api.MaxNum+1)[0], api.ErrRec},
	{of(1, 1, low, 0)[0], api.ErrRec},
	{of(1, 1, 0, high)[0], api.ErrRec},
}

// some is n entries that may be, in any order, of bytes of all sizes; few of the numbers are different ones.
func some(n int, seed int64) []api.Entry {
	r := rand.New(rand.NewSource(seed))
	moments := []int{0, 1, 2, 239, 240, 2287, 2288, lastMoment}
	records := []int{0, 1, 7, 239, 240, 2287, 2288, 65535, 65536, api.MaxNum}
	var l []api.Entry
	for range n {
		l = append(l, of(moments[r.Intn(len(moments))], moments[r.Intn(len(moments))], records[r.Intn(len(records))], records[r.Intn(len(records))])...)
	}
	return l
}

// numbers is an entry's, the ones that count first ahead.
func numbers(e api.Entry) []int {
	return []int{e.At.Epoch, e.At.Round, e.Rec.Key, e.Rec.Val}
}

// coded is entries' bytes, one behind the other, number by number.
func coded(l ...api.Entry) []byte {
	var b []byte
	for _, e := range l {
		for _, n := range numbers(e) {
			x, _ := num.Put(n)
			b = append(b, x...)
		}
	}
	return b
}

// slowSort puts entries in order by taking out the least one, again and again.
func slowSort(l []api.Entry) []api.Entry {
	left := slices.Clone(l)
	var out []api.Entry
	for len(left) > 0 {
		least := 0
		for i, e := range left {
			if slices.Compare(numbers(e), numbers(left[least])) < 0 {
				least = i
			}
		}
		out = append(out, left[least])
		left = append(left[:least], left[least+1:]...)
	}
	return out
}

// P7.1: Check, Size; example 1.
func TestCheckSize(t *testing.T) {
	for _, e := range edges {
		if errno := entry.Check(e); errno != api.OK || entry.Size(e) != len(coded(e)) {
			t.Errorf("%v: %d, %d bytes", e, errno, entry.Size(e))
		}
	}
	for _, c := range wrong {
		if errno := entry.Check(c.e); errno != c.want || entry.Size(c.e) != 0 {
			t.Errorf("%v: %d, %d bytes", c.e, errno, entry.Size(c.e))
		}
	}
	for size, e := range map[int]api.Entry{4: of(0, 0, 0, 0)[0], 5: of(1, 2, 3, 240)[0], 14: of(lastMoment, lastMoment, api.MaxNum, api.MaxNum)[0]} {
		if entry.Size(e) != size {
			t.Errorf("%v: %d bytes", e, entry.Size(e))
		}
	}
	packs, errno := entry.Pack(of(1, 2, 3, 4))
	if errno != api.OK || len(packs) != 1 || !bytes.Equal(packs[0], []byte{1, 2, 3, 4}) {
		t.Error(packs, errno)
	}
}

// P7.1: Compare, also of entries that may not be.
func TestCompare(t *testing.T) {
	for _, l := range [][]api.Entry{
		edges,
		of(low, high, high, high, -1, 0, 0, 0, 0, -1, 5, 5, 0, 0, 0, high, 0, 0, 5, -1, 0, 0, 5, 0, high, low, low, low),
		of(0, 9, 9, 9, 1, 8, 8, 8, 1, 9, 7, 7, 1, 9, 8, 6, 1, 9, 8, 7),
	} {
		for i, a := range l {
			for j, b := range l {
				if x := entry.Compare(a, b); x != cmp.Compare(i, j) {
					t.Errorf("%v and %v: %d", a, b, x)
				}
			}
		}
	}
}

// P7.1: Sort, Sorted.
func TestSort(t *testing.T) {
	backwards := slices.Clone(edges)
	slices.Reverse(backwards)
	lists := [][]api.Entry{nil, {}, edges, backwards, some(700, 1)}
	for n := range 60 {
		lists = append(lists, some(n%6, int64(n)))
	}
	for _, l := range lists {
		want := slowSort(l)
		if x, errno := entry.Sort(l); errno != api.OK || !slices.Equal(x, want) {
			t.Errorf("%v: %v, %d", l, x, errno)
		}
		if entry.Sorted(l) != slices.Equal(l, want) || !entry.Sorted(want) {
			t.Errorf("%v: sorted %v", l, entry.Sorted(l))
		}
	}
	for _, c := range []struct {
		l    []api.Entry
		want bool
	}{
		{of(1, 1, 1, 1, 1, 1, 1, 1), true},
		{of(1, 1, 1, 2, 1, 1, 1, 1), false},
		{of(1, 1, 2, 0, 1, 1, 1, 9), false},
		{of(1, 2, 0, 0, 1, 1, 9, 9), false},
		{of(2, 0, 0, 0, 1, 9, 9, 9), false},
		{of(1, 9, 9, 9, 2, 0, 0, 0), true},
		{of(0, 0, 0, 0, 1, 1, 1, 1, 0, 0, 0, 0), false},
		{of(low, 0, 0, 0, 0, 0, 0, 0, high, 0, 0, 0), true},
		{of(0, 0, 0, 0, 0, 0, 0, -1), false},
	} {
		if entry.Sorted(c.l) != c.want {
			t.Errorf("%v: sorted %v", c.l, !c.want)
		}
	}
	if l := slices.Repeat(edges[:1], 2*api.MaxEntries); !entry.Sorted(l) {
		t.Error("more than a segment has")
	}
}

// P7.1, P7.2: what Sort and Pack refuse: one that may not be ahead of too many, the first one ahead of others.
func TestRefusals(t *testing.T) {
	full, over := some(api.MaxEntries, 2), some(api.MaxEntries+1, 3)
	for name, do := range map[string]func(l []api.Entry) (int, api.Errno){
		"Sort": func(l []api.Entry) (int, api.Errno) { x, errno := entry.Sort(l); return len(x), errno },
		"Pack": func(l []api.Entry) (int, api.Errno) { x, errno := entry.Pack(l); return len(x), errno },
	} {
		refused := func(what any, l []api.Entry, want api.Errno) {
			t.Helper()
			if n, errno := do(l); n != 0 || errno != want {
				t.Errorf("%s, %v: %d, %d, want %d", name, what, n, errno, want)
			}
		}
		if n, errno := do(full); n == 0 || errno != api.OK {
			t.Errorf("%s of MaxEntries: %d, %d", name, n, errno)
		}
		refused("too many", over, api.ErrLong)
		refused("far too many", slices.Concat(full, full), api.ErrLong)
		for _, a := range wrong {
			refused(a, []api.Entry{a.e}, a.want)
			refused(a, append(slices.Clone(edges), a.e), a.want)
			refused(a, append([]api.Entry{a.e}, edges...), a.want)
			refused(a, append(slices.Clone(over), a.e), a.want)
			for _, b := range wrong {
				refused(a, []api.Entry{edges[5], a.e, edges[1], b.e}, a.want)
			}
		}
	}
}

// P7.2: packs hold the entries as they stand, each as many as can be; P7.4: none is empty, and what was packed is unpacked.
func TestPackUnpack(t *testing.T) {
	lists := [][]api.Entry{nil, {}, edges, some(700, 4), some(api.MaxEntries, 5)}
	for n := range 200 {
		lists = append(lists, some(n%40, int64(n)))
	}
	for _, e := range edges {
		for n := range 12 {
			lists = append(lists, slices.Repeat([]api.Entry{e}, n))
		}
	}
	for _, l := range lists {
		packs, errno := entry.Pack(l)
		if errno != api.OK {
			t.Fatal(len(l), errno)
		}
		left := l
		for i, b := range packs {
			some, errno := entry.Unpack(b)
			if errno != api.OK || len(b) == 0 || len(b) > 43 || len(some) > len(left) || !slices.Equal(some, left[:len(some)]) || !bytes.Equal(b, coded(some...)) {
				t.Fatalf("pack %d: %v, %v, %d", i, b, some, errno)
			}
			left = left[len(some):]
			if len(left) > 0 && len(b)+len(coded(left[0])) <= 43 {
				t.Fatalf("pack %d: %v would fit", i, left[0])
			}
		}
		if len(left) > 0 {
			t.Fatalf("%d entries were not packed", len(left))
		}
	}
}

// P7.2: a pack of 43 bytes, and one that would have 44.
func TestPackEdges(t *testing.T) {
	small := slices.Repeat(of(1, 2, 3, 4), 10) // 40 bytes
	for _, c := range []struct {
		l    []api.Entry
		want []int
	}{
		{small, []int{40}},
		{append(slices.Clone(small), small[0]), []int{40, 4}},
		{append(of(1, 2, 3, 65536), small...), []int{43, 4}},
		{append(of(1, 2, 3, 65536), small[:9]...), []int{43}},
		{append(slices.Clone(small[:9]), of(1, 2, 3, 65536)...), []int{43}},
		{append(slices.Clone(small[:9]), of(1, 2, 300, 65536)...), []int{36, 8}},
		{slices.Repeat(edges[len(edges)-1:], 7), []int{42, 42, 14}},
	} {
		packs, errno := entry.Pack(c.l)
		var sizes []int
		for _, b := range packs {
			sizes = append(sizes, len(b))
		}
		if errno != api.OK || !slices.Equal(sizes, c.want) {
			t.Errorf("%v: %v, %d", c.l, sizes, errno)
		}
	}
}

// P7.2: Unpack of what is no entries' bytes.
func TestUnpackWrong(t *testing.T) {
	put := func(l ...int) []byte {
		var b []byte
		for _, n := range l {
			x, _ := num.Put(n)
			b = append(b, x...)
		}
		return b
	}
	good := coded(of(1, 2, 3, 4)...)
	for _, b := range [][]byte{
		{1}, {1, 2}, {1, 2, 3}, {1, 2, 3, 4, 5}, {255},
		{1, 2, 3, 255}, {255, 2, 3, 4}, {1, 255, 3, 4},
		{248, 0, 5, 2, 3, 4}, {1, 2, 3, 248, 8, 239}, // more bytes than have to be
		put(api.MaxEpoch, 0, 0, 0), put(0, api.MaxRound, 0, 0), put(0, 0, api.MaxNum+1, 0), put(0, 0, 0, api.MaxNum+1),
		put(high, 0, 0, 0), put(0, 0, 0, high),
		make([]byte, 43), make([]byte, 41),
	} {
		for _, x := range [][]byte{b, slices.Concat(good, b), slices.Concat(good, good, b)} {
			if len(x) > 43 {
				continue
			}
			if l, errno := entry.Unpack(x); l != nil || errno != api.ErrCode {
				t.Errorf("%v: %v, %d", x, l, errno)
			}
		}
	}
	for _, b := range [][]byte{make([]byte, 44), slices.Repeat(good, 11), slices.Repeat([]byte{255}, 44), make([]byte, 64), make([]byte, 1<<16)} {
		if l, errno := entry.Unpack(b); l != nil || errno != api.ErrLong {
			t.Errorf("%d bytes: %v, %d", len(b), l, errno)
		}
	}
	for _, b := range [][]byte{nil, {}} {
		if l, errno := entry.Unpack(b); len(l) != 0 || errno != api.OK {
			t.Errorf("no bytes: %v, %d", l, errno)
		}
	}
	if l, errno := entry.Unpack(slices.Repeat(good, 10)); errno != api.OK || !slices.Equal(l, slices.Repeat(of(1, 2, 3, 4), 10)) {
		t.Error(l, errno)
	}
}

// P7.2: entries stand in a pack in any order; of its beginnings just those are packs that end with an entry.
func TestUnpackPieces(t *testing.T) {
	l := of(5, 0, 0, 0, 1, 2, 240, 4, 1, 2, 3, 65536, 0, 0, 0, 0, 5, 0, 0, 0)
	ends := map[int]int{}
	for n := range len(l) + 1 {
		ends[len(coded(l[:n]...))] = n
	}
	b := coded(l...)
	for i := range len(b) + 1 {
		some, errno := entry.Unpack(b[:i])
		n, whole := ends[i]
		if whole != (errno == api.OK) || !slices.Equal(some, l[:n]) {
			t.Errorf("%v: %v, %d", b[:i], some, errno)
		}
	}
}

// P7.2: of all short texts of some bytes just those are unpacked that are what their entries have.
func TestUnpackAll(t *testing.T) {
	letters := []byte{0, 7, 239, 240, 248, 255}
	var try func(b []byte, more int)
	try = func(b []byte, more int) {
		l, errno := entry.Unpack(b)
		if errno == api.OK && !bytes.Equal(coded(l...), b) || errno != api.OK && (errno != api.ErrCode || l != nil) {
			t.Fatalf("%v: %v, %d", b, l, errno)
		}
		if more == 0 {
			return
		}
		for _, c := range letters {
			try(append(slices.Clone(b), c), more-1)
		}
	}
	try(nil, 6)
}

// P7.3: At, as the records stand; also of entries and moments that may not be, and of more than a segment has.
func TestAt(t *testing.T) {
	l := slices.Concat(some(300, 6), of(1, 2, 9, 9, 1, 2, 3, 3, 2, 1, 5, 5, 1, 2, 9, 9, 1, 2, -1, high, -1, 0, 4, 4))
	probes := []api.Moment{{Epoch: 1, Round: 2}, {Epoch: 2, Round: 1}, {Epoch: 0, Round: 0}, {Epoch: -1, Round: 0}, {Epoch: 3, Round: 3}, {Epoch: low, Round: high}}
	for _, m := range probes {
		var want []api.Rec
		for _, e := range l {
			if e.At.Epoch == m.Epoch && e.At.Round == m.Round {
				want = append(want, e.Rec)
			}
		}
		if x := entry.At(l, m); !slices.Equal(x, want) {
			t.Errorf("%v: %v, want %v", m, x, want)
		}
	}
	if x := entry.At(of(1, 2, 9, 9, 1, 2, 3, 3, 1, 3, 0, 0, 0, 2, 0, 0, 1, 2, 9, 9), probes[0]); !slices.Equal(x, []api.Rec{{Key: 9, Val: 9}, {Key: 3, Val: 3}, {Key: 9, Val: 9}}) {
		t.Error(x)
	}
	if x := entry.At(slices.Repeat(edges[:1], 3*api.MaxEntries), api.Moment{}); len(x) != 3*api.MaxEntries {
		t.Error(len(x))
	}
	if x := entry.At(nil, api.Moment{}); len(x) != 0 {
		t.Error(x)
	}
}

// P7.3: Behind, as the entries stand, of any moments as a front.
func TestBehind(t *testing.T) {
	l := slices.Concat(some(300, 7), of(1, 2, 9, 9, 1, 2, 3, 3, 2, 1, 5, 5, 1, 2, 9, 9, -1, 7, -1, high))
	for _, f := range [][]api.Moment{
		nil,
		{},
		{{Epoch: 0, Round: 0}},
		{{Epoch: 1, Round: 2}},
		{{Epoch: 1, Round: 2}, {Epoch: 2, Round: 1}},
		{{Epoch: 2, Round: 1}, {Epoch: 1, Round: 2}, {Epoch: 1, Round: 2}, {Epoch: 9, Round: 9}},
		{{Epoch: 240, Round: 0}, {Epoch: 0, Round: 2287}},
		{{Epoch: -1, Round: 7}},
		{{Epoch: low, Round: low}},
		{{Epoch: high, Round: high}},
	} {
		var want []api.Entry
		for _, e := range l {
			covered := false
			for _, m := range f {
				covered = covered || m.Epoch <= e.At.Epoch && m.Round <= e.At.Round
			}
			if covered {
				want = append(want, e)
			}
		}
		if x := entry.Behind(l, f); !slices.Equal(x, want) {
			t.Errorf("%v: %v, want %v", f, x, want)
		}
	}
	if x := entry.Behind(of(2, 0, 1, 1, 1, 3, 2, 2, 1, 2, 3, 3, 9, 9, 4, 4, 2, 0, 1, 1), []api.Moment{{Epoch: 1, Round: 3}, {Epoch: 2, Round: 0}}); !slices.Equal(x, of(2, 0, 1, 1, 1, 3, 2, 2, 9, 9, 4, 4, 2, 0, 1, 1)) {
		t.Error(x)
	}
}

// R3: what is handed in, and the room behind it, is not changed.
func TestArgumentsStay(t *testing.T) {
	room := some(40, 8)
	was := slices.Clone(room)
	l := room[:20]
	f := []api.Moment{{Epoch: 2, Round: 1}, {Epoch: 1, Round: 2}, {Epoch: 9, Round: 9}}
	entry.Sort(l)
	entry.Sorted(l)
	entry.Pack(l)
	entry.At(l, l[3].At)
	entry.Behind(l, f[:2])
	if !slices.Equal(room, was) || !slices.Equal(f, []api.Moment{{Epoch: 2, Round: 1}, {Epoch: 1, Round: 2}, {Epoch: 9, Round: 9}}) {
		t.Error(room, f)
	}
	b := []byte{1, 2, 3, 4, 5, 6, 7, 8, 99, 99}
	entry.Unpack(b[:8])
	if !bytes.Equal(b, []byte{1, 2, 3, 4, 5, 6, 7, 8, 99, 99}) {
		t.Error(b)
	}
}

// R3: answers are new memory, their spare room too: whoever writes there changes neither arguments nor other answers.
func TestAnswersAreNew(t *testing.T) {
	l := edges[:9:9]
	was := slices.Clone(edges)
	odd := of(77, 77, 77, 77)[0]
	for name, answer := range map[string]func() []api.Entry{
		"Sort":   func() []api.Entry { x, _ := entry.Sort(l); return x },
		"Behind": func() []api.Entry { return entry.Behind(l, []api.Moment{{}}) },
		"Unpack": func() []api.Entry { x, _ := entry.Unpack([]byte{1, 2, 3, 4, 5, 6, 7, 8}); return x },
	} {
		first := answer()
		want := slices.Clone(first)
		for i := range first[:cap(first)] {
			first[:cap(first)][i] = odd
		}
		if again := answer(); !slices.Equal(again, want) || !slices.Equal(edges, was) {
			t.Errorf("%s: %v, want %v", name, again, want)
		}
	}
	first := entry.At(l, api.Moment{})
	clear(first[:cap(first)])
	if again := entry.At(l, api.Moment{}); len(again) != 5 || again[4].Key != api.MaxNum || !slices.Equal(edges, was) {
		t.Error("At", again)
	}
}

// R3: packs share nothing with one another.
func TestPacksApart(t *testing.T) {
	want, _ := entry.Pack(edges)
	packs, _ := entry.Pack(edges)
	if len(packs) < 3 {
		t.Fatal(len(packs))
	}
	for k, b := range packs {
		for i := range b[:cap(b)] {
			b[:cap(b)][i] = 99
		}
		for j := k + 1; j < len(packs); j++ {
			if !bytes.Equal(packs[j], want[j]) {
				t.Errorf("pack %d wrote into pack %d", k, j)
			}
		}
	}
}
