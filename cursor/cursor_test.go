package cursor_test

import (
	"math"
	"math/rand"
	"slices"
	"testing"

	"oxbow/api"
	"oxbow/cursor"
	"oxbow/entry"
	"oxbow/files"
	"oxbow/num"
	"oxbow/page"
	"oxbow/pool"
	"oxbow/segment"
)

const name = "seg"

// of makes entries of epochs, rounds, keys and values, in turns.
func of(n ...int) []api.Entry {
	var l []api.Entry
	for i := 0; i < len(n); i += 4 {
		l = append(l, api.Entry{At: api.Moment{Epoch: n[i], Round: n[i+1]}, Rec: api.Rec{Key: n[i+2], Val: n[i+3]}})
	}
	return l
}

var (
	least = of(math.MinInt, math.MinInt, math.MinInt, math.MinInt)[0]
	most  = of(math.MaxInt, math.MaxInt, math.MaxInt, math.MaxInt)[0]
)

// plain is n entries in order, at even values: 10 of them are a page.
func plain(n int) []api.Entry {
	var l []api.Entry
	for i := range n {
		l = append(l, of(1, 0, 1+i/100, 2*(i%100))...)
	}
	return l
}

// some is n entries in order, of bytes of all sizes; some of them are the same.
func some(n int, seed int64) []api.Entry {
	r := rand.New(rand.NewSource(seed))
	moments := []int{0, 1, 240, api.MaxEpoch - 1}
	records := []int{0, 1, 7, 240, 2288, 65536, api.MaxNum}
	var l []api.Entry
	for range n {
		l = append(l, of(moments[r.Intn(len(moments))], moments[r.Intn(len(moments))], records[r.Intn(len(records))], records[r.Intn(len(records))])...)
	}
	slices.SortFunc(l, entry.Compare)
	return l
}

// lists are entries in order, in all numbers of pages.
func lists() [][]api.Entry {
	all := [][]api.Entry{nil, plain(1), plain(9), plain(10), plain(11), plain(20), plain(45), some(200, 1), slices.Repeat(of(1, 2, 3, 4), 35)}
	all = append(all, slices.Concat(of(0, 0, 0, 0), slices.Repeat(of(1, 2, 3, 4), 22), of(5, 5, 5, 5)))
	for n := range 40 {
		all = append(all, some(n, int64(n)))
	}
	return all
}

// probes are entries of a list, ones that are near to them, and ones beyond all.
func probes(l []api.Entry) []api.Entry {
	all := []api.Entry{{}, least, most}
	for _, e := range l {
		for _, more := range []int{-1, 0, 1} {
			near := e
			near.Rec.Val += more
			all = append(all, near)
		}
	}
	return all
}

// written is a disk with a segment of these.
func written(t *testing.T, l []api.Entry) (*files.Disk, *segment.Segment) {
	t.Helper()
	d, _ := files.New(api.MaxSectors)
	errno := segment.Write(d, name, 7, l)
	s, wrong := segment.Open(d, name, 7)
	if errno != api.OK || wrong != api.OK {
		t.Fatal(errno, wrong)
	}
	return d, s
}

func frames(t *testing.T, n int) *pool.Pool {
	t.Helper()
	p, errno := pool.New(n)
	if errno != api.OK {
		t.Fatal(errno)
	}
	return p
}

func made(t *testing.T, p *pool.Pool, s *segment.Segment, from api.Entry) *cursor.Cursor {
	t.Helper()
	c, errno := cursor.New(p, s, from)
	if errno != api.OK || c == nil || c.Err() != api.OK {
		t.Fatal("New", from, errno)
	}
	return c
}

// at asks that a cursor stands at an entry.
func at(t *testing.T, c *cursor.Cursor, e api.Entry) {
	t.Helper()
	for range 2 {
		if x, is := c.Peek(); x != e || !is {
			t.Fatalf("at %v, %v, want %v", x, is, e)
		}
	}
}

// end asks that a cursor is at the end, and stays there; Err is that.
func end(t *testing.T, c *cursor.Cursor, err api.Errno) {
	t.Helper()
	for range 2 {
		if x, is := c.Peek(); x != (api.Entry{}) || is {
			t.Fatalf("at %v, %v, want the end", x, is)
		}
		if errno := c.Next(); errno != api.ErrNone {
			t.Fatalf("Next at the end: %d", errno)
		}
		if l, errno := c.Rest(); len(l) != 0 || errno != api.OK {
			t.Fatalf("Rest at the end: %v, %d", l, errno)
		}
		if c.Err() != err {
			t.Fatalf("Err at the end: %d, want %d", c.Err(), err)
		}
		c.Close()
	}
}

// step goes on by one.
func step(t *testing.T, c *cursor.Cursor) {
	t.Helper()
	if errno := c.Next(); errno != api.OK {
		t.Fatalf("Next: %d", errno)
	}
}

// held asks how many frames are held.
func held(t *testing.T, p *pool.Pool, n int) {
	t.Helper()
	if p.Held() != n {
		t.Fatalf("%d frames are held, want %d", p.Held(), n)
	}
}

// beyond is the entries from the first one on that does not come ahead of from.
func beyond(l []api.Entry, from api.Entry) []api.Entry {
	for i, e := range l {
		if entry.Compare(e, from) >= 0 {
			return l[i:]
		}
	}
	return nil
}

// off lets the power go.
func off(d *files.Disk) {
	d.Stop(0)
	d.Create("x")
}

// P10.1, P10.3: one by one what stands there from an entry on; one page is held, at the end none.
func TestOneByOne(t *testing.T) {
	for k, l := range lists() {
		_, s := written(t, l)
		for _, from := range probes(l) {
			p := frames(t, 1)
			c := made(t, p, s, from)
			for _, e := range beyond(l, from) {
				at(t, c, e)
				held(t, p, 1)
				if errno := c.Next(); errno != api.OK || c.Err() != api.OK {
					t.Fatal(k, from, errno, c.Err())
				}
			}
			held(t, p, 0)
			end(t, c, api.OK)
		}
	}
}

// P10.2: Rest, from the beginning and from where a cursor has come to.
func TestRest(t *testing.T) {
	for k, l := range lists() {
		_, s := written(t, l)
		for i, from := range probes(l) {
			p := frames(t, 1)
			c := made(t, p, s, from)
			want := beyond(l, from)
			steps := min(i%13, len(want))
			for range steps {
				step(t, c)
			}
			if x, errno := c.Rest(); errno != api.OK || !slices.Equal(x, want[steps:]) {
				t.Fatalf("list %d, from %v: %v, %d", k, from, x, errno)
			}
			held(t, p, 0)
			end(t, c, api.OK)
		}
	}
}

// P10.1, example 1: from an entry beyond all: at the end. A segment without entries needs no frame.
func TestAtTheEnd(t *testing.T) {
	_, s := written(t, plain(25))
	p := frames(t, 1)
	end(t, made(t, p, s, most), api.OK)
	held(t, p, 0)
	d, none := written(t, nil)
	off(d)
	for _, from := range []api.Entry{{}, least, most} {
		end(t, made(t, frames(t, 0), none, from), api.OK)
	}
}

// P10.1: the page at which a cursor stands is held, from the one on that Find tells; each is held once.
func TestPages(t *testing.T) {
	_, s := written(t, plain(40)) // pages begin at 0, 20, 40, 60
	for _, c := range []struct{ from, page, reads int }{
		{-5, 0, 1}, {0, 0, 1}, {1, 0, 1}, {18, 0, 1},
		{19, 1, 2}, {20, 1, 2}, {21, 1, 1}, {38, 1, 1}, {39, 2, 2}, {40, 2, 2}, {41, 2, 1},
		{61, 3, 1}, {78, 3, 1},
	} {
		p := frames(t, 4)
		x := made(t, p, s, of(1, 0, 1, c.from)[0])
		stats := api.Stats{Reads: c.reads}
		if p.Stats() != stats || p.Free(name, c.page) != api.OK || p.Held() != 0 {
			t.Errorf("from %d: %v, held %d", c.from, p.Stats(), p.Held())
		}
		p.Hold(s, c.page)
		if _, errno := x.Rest(); errno != api.OK || p.Stats() != (api.Stats{Hits: 1, Reads: c.reads + 3 - c.page}) {
			t.Errorf("from %d, to the end: %v, %d", c.from, p.Stats(), errno)
		}
	}
	p := frames(t, 4)
	x := made(t, p, s, of(1, 0, 1, 79)[0])
	if p.Stats() != (api.Stats{Reads: 1}) {
		t.Error(p.Stats())
	}
	held(t, p, 0)
	end(t, x, api.OK)
}

// P10.1: a page is free before the next one is held, so that it may go for it.
func TestFreeAhead(t *testing.T) {
	_, s := written(t, plain(40))
	p := frames(t, 1)
	c := made(t, p, s, least)
	for i := range 4 {
		if !p.Has(name, i) || p.Used() != 1 {
			t.Error(i, p.Used())
		}
		for range 10 {
			step(t, c)
		}
	}
	if p.Stats() != (api.Stats{Reads: 4, Losses: 3}) {
		t.Error(p.Stats())
	}
}

// P10.1: what New refuses.
func TestNewRefuses(t *testing.T) {
	d, s := written(t, plain(40))
	refused := func(p *pool.Pool, s *segment.Segment, from api.Entry, want api.Errno) {
		t.Helper()
		if c, errno := cursor.New(p, s, from); c != nil || errno != want {
			t.Fatalf("New from %v: %d, want %d", from, errno, want)
		}
	}
	_, none := written(t, nil)
	p := frames(t, 2)
	for _, from := range []api.Entry{{}, least, most} {
		refused(nil, s, from, api.ErrClosed)
		refused(nil, none, from, api.ErrClosed)
		refused(p, nil, from, api.ErrClosed)
		refused(nil, nil, from, api.ErrClosed)
		refused(frames(t, 0), s, from, api.ErrPinned)
	}
	p.Hold(s, 0)
	p.Hold(s, 2)
	refused(p, s, of(1, 0, 1, 25)[0], api.ErrPinned)
	refused(p, s, of(1, 0, 1, 19)[0], api.ErrPinned) // page 0 is at hand, page 1 is refused
	held(t, p, 2)
	if p.Free(name, 0) != api.OK || p.Free(name, 0) != api.ErrNone {
		t.Error("page 0 is to be held once")
	}
	p = frames(t, 2)
	d.Flip(name, 1, 100, 1)
	refused(p, s, of(1, 0, 1, 25)[0], api.ErrRot)
	refused(p, s, of(1, 0, 1, 19)[0], api.ErrRot) // page 0 is read, page 1 is refused
	held(t, p, 0)
	if !p.Has(name, 0) {
		t.Error("page 0 was read")
	}
	off(d)
	refused(p, s, of(1, 0, 1, 19)[0], api.ErrOff)
	refused(p, s, most, api.ErrOff)
	held(t, p, 0)
	at(t, made(t, p, s, of(1, 0, 1, 17)[0]), of(1, 0, 1, 18)[0]) // page 0 is at hand
}

// P10.1: what Next refuses; the cursor is at the end then, and holds nothing.
func TestNextRefuses(t *testing.T) {
	stopped := func(p *pool.Pool, c *cursor.Cursor, frames int, want api.Errno) {
		t.Helper()
		if errno := c.Next(); errno != want {
			t.Fatalf("Next: %d, want %d", errno, want)
		}
		held(t, p, frames)
		end(t, c, want)
	}
	start := of(1, 0, 1, 18)[0]
	d, s := written(t, plain(40))
	p := frames(t, 1)
	a, b := made(t, p, s, start), made(t, p, s, start)
	stopped(p, a, 1, api.ErrPinned) // b holds the page still
	at(t, b, start)
	step(t, b)
	at(t, b, of(1, 0, 1, 20)[0])
	b.Close()

	d.Flip(name, 1, 100, 1)
	p = frames(t, 3)
	a, b = made(t, p, s, start), made(t, p, s, of(1, 0, 1, 58)[0])
	stopped(p, a, 1, api.ErrRot)
	step(t, b)
	a = made(t, p, s, start)
	off(d)
	stopped(p, a, 1, api.ErrOff)
	at(t, b, of(1, 0, 1, 60)[0])
	b.Close()
	b = made(t, p, s, start) // its page is at hand
	at(t, b, start)
	d.Crash(nil)
	d.Delete(name)
	stopped(p, b, 0, api.ErrNone)
}

// P10.2: what Rest refuses: nothing is told, and the cursor is at the end, and holds nothing.
func TestRestRefuses(t *testing.T) {
	stopped := func(p *pool.Pool, c *cursor.Cursor, want api.Errno) {
		t.Helper()
		if l, errno := c.Rest(); l != nil || errno != want {
			t.Fatalf("Rest: %v, %d, want %d", l, errno, want)
		}
		end(t, c, want)
	}
	d, s := written(t, plain(40))
	d.Flip(name, 3, 100, 1)
	p := frames(t, 2)
	c := made(t, p, s, least)
	stopped(p, c, api.ErrRot)
	held(t, p, 0)
	if p.Stats() != (api.Stats{Reads: 3, Losses: 1}) {
		t.Error(p.Stats())
	}
	c = made(t, p, s, of(1, 0, 1, 31)[0])
	p.Hold(s, 1)
	p.Hold(s, 0)
	stopped(p, c, api.ErrPinned)
	held(t, p, 2)
	p.Free(name, 0)
	c = made(t, p, s, of(1, 0, 1, 31)[0])
	off(d)
	stopped(p, c, api.ErrOff)
	held(t, p, 1)
}

// P10.2: Close; what others hold stays held.
func TestClose(t *testing.T) {
	_, s := written(t, plain(40))
	p := frames(t, 3)
	a, b, c := made(t, p, s, least), made(t, p, s, least), made(t, p, s, of(1, 0, 1, 33)[0])
	held(t, p, 2)
	step(t, b)
	a.Close()
	held(t, p, 2)
	end(t, a, api.OK)
	held(t, p, 2)
	at(t, b, of(1, 0, 1, 2)[0])
	c.Close()
	held(t, p, 1)
	b.Close()
	held(t, p, 0)
	for _, x := range []*cursor.Cursor{a, b, c} {
		end(t, x, api.OK)
	}
	if p.Free(name, 0) != api.ErrNone || p.Free(name, 1) != api.ErrNone {
		t.Error("a page is held still")
	}
}

// P10.3: cursors of one segment and one pool go on each by itself.
func TestSeveral(t *testing.T) {
	r := rand.New(rand.NewSource(10))
	l := some(120, 3)
	_, s := written(t, l)
	for range 50 {
		p := frames(t, 3)
		var cursors []*cursor.Cursor
		var left [][]api.Entry
		for range 3 {
			from := l[r.Intn(len(l))]
			cursors = append(cursors, made(t, p, s, from))
			left = append(left, beyond(l, from))
		}
		for range 300 {
			k := r.Intn(3)
			if len(left[k]) == 0 {
				end(t, cursors[k], api.OK)
				continue
			}
			at(t, cursors[k], left[k][0])
			step(t, cursors[k])
			left[k] = left[k][1:]
			if r.Intn(40) == 0 {
				x, errno := cursors[k].Rest()
				if errno != api.OK || !slices.Equal(x, left[k]) {
					t.Fatal(x, errno)
				}
				left[k] = nil
			}
		}
		for _, c := range cursors {
			c.Close()
		}
		held(t, p, 0)
	}
}

// laid is a segment whose pages hold just that, whether a segment has such ones or not.
func laid(t *testing.T, rows ...[]byte) *segment.Segment {
	t.Helper()
	d, _ := files.New(api.MaxSectors)
	d.Create(name)
	for i, b := range rows {
		p, _ := page.Put(7+i, b)
		d.Append(name, p)
	}
	s, errno := segment.Open(d, name, 7)
	if errno != api.OK {
		t.Fatal(errno)
	}
	return s
}

// coded is entries' bytes, one behind the other.
func coded(l ...api.Entry) []byte {
	var b []byte
	for _, e := range l {
		for _, n := range []int{e.At.Epoch, e.At.Round, e.Rec.Key, e.Rec.Val} {
			x, _ := num.Put(n)
			b = append(b, x...)
		}
	}
	return b
}

// P10.1, P10.3: pages that go back behind the one ahead: what stands there is told all the same, page by page.
func TestNoOrder(t *testing.T) {
	e := func(val int) api.Entry { return of(1, 0, 0, val)[0] }
	s := laid(t, coded(e(0), e(50), e(60)), coded(e(10), e(11)), coded(e(20), e(90)), coded(e(0), e(10), e(20)), []byte{7, 3, 1})
	for from, want := range map[int][]int{
		0:  {0, 50, 60, 10, 11, 20, 90},
		5:  {50, 60, 10, 11, 20, 90},
		10: {50, 60, 10, 11, 20, 90},
		11: {11, 20, 90},
		12: {20, 90},
		20: {20, 90},
		60: {90},
		91: nil,
	} {
		p := frames(t, 1)
		c := made(t, p, s, e(from))
		for _, val := range want {
			at(t, c, e(val))
			step(t, c)
		}
		end(t, c, api.OK)
		held(t, p, 0)
	}
}

// P10.2: of a nil Cursor.
func TestNil(t *testing.T) {
	for _, c := range []*cursor.Cursor{nil, {}} {
		if e, is := c.Peek(); e != (api.Entry{}) || is {
			t.Error(e, is)
		}
		if l, errno := c.Rest(); l != nil || errno != api.ErrClosed {
			t.Error(l, errno)
		}
		c.Close()
		if c.Next() != api.ErrClosed || c.Err() != api.ErrClosed {
			t.Error(c.Next(), c.Err())
		}
	}
}

// R3: what Rest told is new memory: whoever writes there changes neither the pool nor other cursors.
func TestAnswersAreNew(t *testing.T) {
	l := plain(25)
	_, s := written(t, l)
	p := frames(t, 3)
	other := made(t, p, s, least)
	for range 3 {
		x, errno := made(t, p, s, least).Rest()
		if errno != api.OK || !slices.Equal(x, l) {
			t.Fatal(x, errno)
		}
		for i := range x[:cap(x)] {
			x[:cap(x)][i] = most
		}
	}
	if x, errno := other.Rest(); errno != api.OK || !slices.Equal(x, l) {
		t.Error(x, errno)
	}
}
