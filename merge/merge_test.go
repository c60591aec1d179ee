package merge_test

import (
	"math"
	"math/rand"
	"slices"
	"strconv"
	"testing"

	"oxbow/api"
	"oxbow/cursor"
	"oxbow/entry"
	"oxbow/files"
	"oxbow/merge"
	"oxbow/pool"
	"oxbow/segment"
)

// of makes entries of one moment and one key, of these values.
func of(vals ...int) []api.Entry {
	var l []api.Entry
	for _, v := range vals {
		l = append(l, api.Entry{At: api.Moment{Epoch: 1, Round: 2}, Rec: api.Rec{Key: 3, Val: v}})
	}
	return l
}

// upto is the entries of the values from a on, ahead of b: 10 of them are a page.
func upto(a, b int) []api.Entry {
	var l []api.Entry
	for v := a; v < b; v++ {
		l = append(l, of(v)...)
	}
	return l
}

var (
	least = api.Entry{At: api.Moment{Epoch: math.MinInt, Round: math.MinInt}, Rec: api.Rec{Key: math.MinInt, Val: math.MinInt}}
	most  = api.Entry{At: api.Moment{Epoch: math.MaxInt, Round: math.MaxInt}, Rec: api.Rec{Key: math.MaxInt, Val: math.MaxInt}}
)

// some is n entries in order, of few numbers: many are the same.
func some(r *rand.Rand, n int) []api.Entry {
	var l []api.Entry
	for range n {
		l = append(l, api.Entry{At: api.Moment{Epoch: r.Intn(3), Round: r.Intn(3)}, Rec: api.Rec{Key: r.Intn(3), Val: r.Intn(3)}})
	}
	slices.SortFunc(l, entry.Compare)
	return l
}

// disk has a segment of each of these lists; they are called 0, 1, .. .
func disk(t *testing.T, lists ...[]api.Entry) (*files.Disk, []*segment.Segment) {
	t.Helper()
	d, _ := files.New(api.MaxSectors)
	var all []*segment.Segment
	for k, l := range lists {
		name := strconv.Itoa(k)
		errno := segment.Write(d, name, 1+1000*k, l)
		s, wrong := segment.Open(d, name, 1+1000*k)
		if errno != api.OK || wrong != api.OK {
			t.Fatal(k, errno, wrong)
		}
		all = append(all, s)
	}
	return d, all
}

func frames(t *testing.T, n int) *pool.Pool {
	t.Helper()
	p, errno := pool.New(n)
	if errno != api.OK {
		t.Fatal(errno)
	}
	return p
}

// start is a cursor at a segment's first entry.
func start(t *testing.T, p *pool.Pool, s *segment.Segment) *cursor.Cursor {
	t.Helper()
	c, errno := cursor.New(p, s, least)
	if errno != api.OK {
		t.Fatal(errno)
	}
	return c
}

// read is a cursor at the beginning of a segment of these, in a pool of its own.
func read(t *testing.T, l []api.Entry) *cursor.Cursor {
	t.Helper()
	_, s := disk(t, l)
	return start(t, frames(t, 1), s[0])
}

func made(t *testing.T, lists [][]api.Entry, cursors ...*cursor.Cursor) *merge.Merger {
	t.Helper()
	m, errno := merge.New(lists, cursors)
	if errno != api.OK || m == nil {
		t.Fatal("New", errno)
	}
	return m
}

// tells asks that a merger tells these one by one, and which is next each time.
func tells(t *testing.T, m *merge.Merger, l ...api.Entry) {
	t.Helper()
	for _, e := range l {
		for range 2 {
			if x, is := m.Peek(); x != e || !is {
				t.Fatalf("Peek: %v, %v, want %v", x, is, e)
			}
		}
		if x, is, errno := m.Next(); x != e || !is || errno != api.OK {
			t.Fatalf("Next: %v, %v, %d, want %v", x, is, errno, e)
		}
	}
}

// end asks that a merger tells nothing more, and what it met.
func end(t *testing.T, m *merge.Merger, met api.Errno) {
	t.Helper()
	for range 2 {
		if e, is := m.Peek(); e != (api.Entry{}) || is {
			t.Fatalf("Peek at the end: %v, %v", e, is)
		}
		if e, is, errno := m.Next(); e != (api.Entry{}) || is || errno != met {
			t.Fatalf("Next at the end: %v, %v, %d, want %d", e, is, errno, met)
		}
		if l, errno := m.Rest(); len(l) != 0 || errno != met {
			t.Fatalf("Rest at the end: %v, %d, want %d", l, errno, met)
		}
		if l, errno := m.While(unasked(t)); len(l) != 0 || errno != met {
			t.Fatalf("While at the end: %v, %d, want %d", l, errno, met)
		}
	}
}

// unasked may not be called.
func unasked(t *testing.T) func(api.Entry) bool {
	return func(e api.Entry) bool {
		t.Errorf("asked of %v", e)
		return true
	}
}

func left(t *testing.T, m *merge.Merger, n int) {
	t.Helper()
	if m.Left() != n {
		t.Fatalf("Left: %d, want %d", m.Left(), n)
	}
}

func held(t *testing.T, p *pool.Pool, n int) {
	t.Helper()
	if p.Held() != n {
		t.Fatalf("%d frames are held, want %d", p.Held(), n)
	}
}

// below answers true of values less than that.
func below(val int) func(api.Entry) bool {
	return func(e api.Entry) bool { return e.Rec.Val < val }
}

// takes asks what While tells.
func takes(t *testing.T, m *merge.Merger, is func(api.Entry) bool, want ...api.Entry) {
	t.Helper()
	if l, errno := m.While(is); errno != api.OK || !slices.Equal(l, want) {
		t.Fatalf("While: %v, %d, want %v", l, errno, want)
	}
}

// off lets the power go.
func off(d *files.Disk) {
	d.Stop(0)
	d.Create("x")
}

// P11.1, P11.2, example 1.
func TestExample(t *testing.T) {
	if l, errno := merge.Lists([][]api.Entry{of(1, 3), of(2, 3)}); errno != api.OK || !slices.Equal(l, of(1, 2, 3, 3)) {
		t.Error(l, errno)
	}
	m := made(t, [][]api.Entry{of(1, 3), of(2, 3)})
	tells(t, m, of(1, 2, 3, 3)...)
	end(t, m, api.OK)
	m = made(t, [][]api.Entry{of(1, 3)}, read(t, of(2, 3)))
	tells(t, m, of(1, 2, 3, 3)...)
	end(t, m, api.OK)
}

// P11.1, P11.3: what all sources have, in order, each as often, however it is asked for; the frames are free then.
func TestAll(t *testing.T) {
	r := rand.New(rand.NewSource(11))
	for k := range 300 {
		var lists, written [][]api.Entry
		for range r.Intn(8) {
			lists = append(lists, some(r, r.Intn(20)))
		}
		for range r.Intn(8) {
			written = append(written, some(r, r.Intn(60)))
		}
		want := slices.Concat(slices.Concat(lists...), slices.Concat(written...))
		slices.SortFunc(want, entry.Compare)
		_, segments := disk(t, written...)
		p := frames(t, len(written))
		var cursors []*cursor.Cursor
		for _, s := range segments {
			cursors = append(cursors, start(t, p, s))
		}
		m := made(t, lists, cursors...)
		for at := 0; at < len(want); {
			switch r.Intn(10) {
			case 0:
				to := want[r.Intn(len(want))]
				l, errno := m.While(func(e api.Entry) bool { return entry.Compare(e, to) < 0 })
				n := slices.IndexFunc(want[at:], func(e api.Entry) bool { return entry.Compare(e, to) >= 0 })
				if n < 0 {
					n = len(want) - at
				}
				if errno != api.OK || !slices.Equal(l, want[at:at+n]) {
					t.Fatalf("%d: While: %v, %d, want %v", k, l, errno, want[at:at+n])
				}
				at += n
			case 1:
				if at < len(want)/2 {
					continue
				}
				if l, errno := m.Rest(); errno != api.OK || !slices.Equal(l, want[at:]) {
					t.Fatalf("%d: Rest: %v, %d, want %v", k, l, errno, want[at:])
				}
				at = len(want)
			default:
				tells(t, m, want[at])
				at++
			}
		}
		end(t, m, api.OK)
		left(t, m, 0)
		held(t, p, 0)
	}
}

// P11.1: all parts of an entry count for the order.
func TestOrder(t *testing.T) {
	e := func(epoch, round, key, val int) []api.Entry {
		return []api.Entry{{At: api.Moment{Epoch: epoch, Round: round}, Rec: api.Rec{Key: key, Val: val}}}
	}
	want := slices.Concat(e(0, 9, 9, 9), e(1, 0, 9, 9), e(1, 1, 0, 9), e(1, 1, 1, 0), e(1, 1, 1, 1))
	l, errno := merge.Lists([][]api.Entry{e(1, 1, 1, 1), e(1, 1, 0, 9), e(0, 9, 9, 9), e(1, 1, 1, 0), e(1, 0, 9, 9)})
	if errno != api.OK || !slices.Equal(l, want) {
		t.Error(l, errno)
	}
}

// P11.1: there may be 64 sources, lists and cursors together, and none.
func TestSources(t *testing.T) {
	c := read(t, nil)
	for _, n := range []struct {
		lists, cursors int
		errno          api.Errno
	}{
		{0, 0, api.OK}, {64, 0, api.OK}, {0, 64, api.OK}, {32, 32, api.OK}, {63, 1, api.OK}, {1, 63, api.OK},
		{65, 0, api.ErrMany}, {0, 65, api.ErrMany}, {32, 33, api.ErrMany}, {64, 1, api.ErrMany}, {1, 64, api.ErrMany}, {1000, 0, api.ErrMany},
	} {
		m, errno := merge.New(make([][]api.Entry, n.lists), slices.Repeat([]*cursor.Cursor{c}, n.cursors))
		if errno != n.errno || (m == nil) != (errno != api.OK) {
			t.Error(n, errno)
		}
		if m != nil {
			end(t, m, api.OK)
			left(t, m, 0)
		}
	}
	var lists [][]api.Entry
	for v := range 64 {
		lists = append(lists, of(100-v, 200+v))
	}
	m := made(t, lists)
	left(t, m, 64)
	if l, errno := m.Rest(); errno != api.OK || len(l) != 128 || l[0] != of(37)[0] || l[127] != of(263)[0] || !entry.Sorted(l) {
		t.Error(l, errno)
	}
}

// P11.1: what New refuses, and what of it first; cursors stand where they stood.
func TestNewRefuses(t *testing.T) {
	wrong := of(2, 1)
	c := read(t, of(1, 2))
	refused := func(lists [][]api.Entry, cursors []*cursor.Cursor, want api.Errno) {
		t.Helper()
		if m, errno := merge.New(lists, cursors); m != nil || errno != want {
			t.Errorf("New: %d, want %d", errno, want)
		}
		if e, is := c.Peek(); e != of(1)[0] || !is {
			t.Error("a cursor has gone on", e, is)
		}
	}
	refused([][]api.Entry{wrong}, nil, api.ErrArg)
	refused([][]api.Entry{of(1, 2), nil, of(1, 3, 2)}, []*cursor.Cursor{c}, api.ErrArg)
	refused(nil, []*cursor.Cursor{nil}, api.ErrClosed)
	refused([][]api.Entry{of(1)}, []*cursor.Cursor{c, c, nil}, api.ErrClosed)
	refused([][]api.Entry{wrong}, []*cursor.Cursor{nil}, api.ErrArg)
	refused(slices.Repeat([][]api.Entry{wrong}, 65), nil, api.ErrMany)
	refused(slices.Repeat([][]api.Entry{wrong}, 64), []*cursor.Cursor{nil}, api.ErrMany)
	refused(nil, slices.Repeat([]*cursor.Cursor{nil}, 65), api.ErrMany)
}

// P11.1: any entries may be merged; nothing but their order is asked.
func TestAnyEntries(t *testing.T) {
	if l, errno := merge.Lists([][]api.Entry{{least, {}, most}, {{}}, {least}}); errno != api.OK || !slices.Equal(l, []api.Entry{least, least, {}, {}, most}) {
		t.Error(l, errno)
	}
	big := upto(0, api.MaxEntries)
	if l, errno := merge.Lists([][]api.Entry{big, big}); errno != api.OK || len(l) != 2*api.MaxEntries || !entry.Sorted(l) {
		t.Error(len(l), errno)
	}
}

// P11.1: a cursor is read from where it stands, also if that is its end.
func TestWhereItStands(t *testing.T) {
	a, b, c := read(t, upto(0, 30)), read(t, of(5, 25)), read(t, of(1))
	for range 22 {
		a.Next()
	}
	b.Close()
	c.Next()
	m := made(t, [][]api.Entry{of(24)}, a, b, c)
	left(t, m, 2)
	tells(t, m, of(22, 23, 24, 24, 25, 26, 27, 28, 29)...)
	end(t, m, api.OK)
	left(t, m, 0)
}

// P11.1: Left, as sources end. Of equal entries the source that was handed in first goes on first.
func TestLeft(t *testing.T) {
	m := made(t, [][]api.Entry{of(1, 2), nil, of(3), of(3, 4)}, read(t, of(2, 3)), read(t, nil))
	for _, n := range []int{4, 4, 3, 3, 2, 2, 1} {
		left(t, m, n)
		m.Next()
	}
	left(t, m, 0)

	m = made(t, [][]api.Entry{of(1, 1), of(1, 5)}, read(t, of(1)))
	for _, n := range []int{3, 3, 2, 2, 1} {
		left(t, m, n)
		m.Next()
	}
	left(t, m, 0)
}

// P11.1: While tells no more than is answers true of; it asks of each entry once, and goes on where it was left.
func TestWhile(t *testing.T) {
	m := made(t, [][]api.Entry{of(1, 4, 7), of(2, 4)}, read(t, of(3, 9)))
	var asked []api.Entry
	is := func(e api.Entry) bool {
		asked = append(asked, e)
		return e.Rec.Val < 4
	}
	takes(t, m, is, of(1, 2, 3)...)
	if !slices.Equal(asked, of(1, 2, 3, 4)) {
		t.Error(asked)
	}
	takes(t, m, below(4))
	takes(t, m, below(math.MinInt))
	left(t, m, 3)
	takes(t, m, below(5), of(4, 4)...)
	tells(t, m, of(7)...)
	takes(t, m, below(100), of(9)...)
	end(t, m, api.OK)
}

// P11.1, rule R1: what is wrong with is: it is nil, it panics, it calls the merger.
func TestWhileOfAny(t *testing.T) {
	m := made(t, [][]api.Entry{of(1, 2, 3)}, read(t, of(2, 4)))
	takes(t, m, nil)
	takes(t, m, func(api.Entry) bool { panic("no") })
	takes(t, m, func(e api.Entry) bool {
		if e.Rec.Val == 2 {
			panic("no more")
		}
		return true
	}, of(1)...)
	tells(t, m, of(2)...)
	m.While(func(api.Entry) bool {
		m.Close()
		return true
	})
	end(t, m, api.OK)
	takes(t, m, nil)
	m = made(t, [][]api.Entry{of(1, 2, 3)})
	m.While(func(api.Entry) bool {
		m.Rest()
		return true
	})
	end(t, m, api.OK)
}

// rotten is a cursor over 0 to 29, of which the page from 10 on is not there any more.
func rotten(t *testing.T) *cursor.Cursor {
	t.Helper()
	d, s := disk(t, upto(0, 30))
	d.Flip("0", 1, 100, 1)
	return start(t, frames(t, 1), s[0])
}

// P11.1: what a cursor's Next refuses is met: the entry at which it stood is told still, and then nothing more.
func TestMet(t *testing.T) {
	d, s := disk(t, upto(0, 30), of(3, 5, 9, 9))
	d.Flip("0", 1, 100, 1)
	p := frames(t, 4)
	m := made(t, [][]api.Entry{of(4, 9, 10), of(8)}, start(t, p, s[0]), start(t, p, s[1]))
	left(t, m, 4)
	held(t, p, 2)
	tells(t, m, of(0, 1, 2, 3, 3, 4, 4, 5, 5, 6, 7, 8, 8, 9, 9)...)
	end(t, m, api.ErrRot)
	left(t, m, 2) // 10, and 9 of the other cursor
	held(t, p, 1)
	m.Close()
	held(t, p, 0)
	left(t, m, 0)
	end(t, m, api.ErrRot)
}

// P11.1: of what may be refused each is met: no power, no frame.
func TestMetOthers(t *testing.T) {
	d, s := disk(t, upto(0, 30))
	p := frames(t, 2)
	m := made(t, nil, start(t, p, s[0]))
	tells(t, m, upto(0, 15)...)
	off(d)
	tells(t, m, upto(15, 20)...)
	end(t, m, api.ErrOff)
	d.Crash(nil)
	end(t, m, api.ErrOff) // what was met stays so

	p = frames(t, 1)
	a, b := start(t, p, s[0]), start(t, p, s[0])
	m = made(t, nil, a, b)
	tells(t, m, slices.Concat(of(0, 0, 1, 1, 2, 2, 3, 3), of(4, 4, 5, 5, 6, 6, 7, 7, 8, 8), of(9))...)
	end(t, m, api.ErrPinned)
	left(t, m, 1)
	if a.Err() != api.ErrPinned || b.Err() != api.OK {
		t.Error(a.Err(), b.Err())
	}
}

// P11.1: Rest and While tell what is met, and nothing beside it.
func TestGatherMet(t *testing.T) {
	m := made(t, [][]api.Entry{of(4, 12)}, rotten(t))
	if l, errno := m.Rest(); l != nil || errno != api.ErrRot {
		t.Error(l, errno)
	}
	end(t, m, api.ErrRot)
	left(t, m, 1)

	m = made(t, [][]api.Entry{of(4, 12)}, rotten(t))
	takes(t, m, below(9), slices.Concat(upto(0, 5), upto(4, 9))...)
	asked := 0
	l, errno := m.While(func(api.Entry) bool {
		asked++
		return true
	})
	if l != nil || errno != api.ErrRot || asked != 1 { // 9 alone is next
		t.Error(l, errno, asked)
	}
	end(t, m, api.ErrRot)
	if l, errno := m.While(nil); l != nil || errno != api.ErrRot {
		t.Error(l, errno)
	}
}

// P11.1: what a cursor refused ahead of the merger is not met: it is at its end.
func TestRefusedAhead(t *testing.T) {
	c := rotten(t)
	c.Rest()
	m := made(t, [][]api.Entry{of(1, 2)}, c)
	left(t, m, 1)
	tells(t, m, of(1, 2)...)
	end(t, m, api.OK)
}

// P11.1: Close; other cursors of the pool hold theirs still.
func TestClose(t *testing.T) {
	_, s := disk(t, upto(0, 30), upto(15, 40), nil)
	p := frames(t, 4)
	a, b, c, other := start(t, p, s[0]), start(t, p, s[1]), start(t, p, s[2]), start(t, p, s[0])
	m := made(t, [][]api.Entry{of(1)}, a, b, c)
	tells(t, m, of(0, 1, 1, 2)...)
	tells(t, m, upto(3, 12)...)
	held(t, p, 3)
	for range 2 {
		m.Close()
		held(t, p, 1)
		left(t, m, 0)
		end(t, m, api.OK)
	}
	for _, x := range []*cursor.Cursor{a, b, c} {
		if e, is := x.Peek(); is || x.Err() != api.OK {
			t.Error(e, x.Err())
		}
	}
	if l, errno := other.Rest(); errno != api.OK || !slices.Equal(l, upto(0, 30)) {
		t.Error(l, errno)
	}
	fresh := made(t, [][]api.Entry{of(1)}, start(t, p, s[0]))
	fresh.Close()
	end(t, fresh, api.OK)
	held(t, p, 0)
}

// Rule R4: what a cursor was told beside the merger counts: it is at its end, or further on, and no error of that is met.
func TestCursorsGoOn(t *testing.T) {
	a, b := read(t, upto(0, 30)), read(t, of(3, 13, 23))
	m := made(t, [][]api.Entry{of(12, 40)}, a, b)
	tells(t, m, of(0, 1)...)
	for range 8 {
		a.Next()
	}
	tells(t, m, of(3)...)
	if e, is := m.Peek(); e != of(10)[0] || !is {
		t.Error(e, is)
	}
	a.Close()
	left(t, m, 2)
	tells(t, m, of(12, 13)...)
	b.Rest()
	left(t, m, 1)
	tells(t, m, of(40)...)
	end(t, m, api.OK)

	c := rotten(t)
	m = made(t, [][]api.Entry{of(1, 2)}, c)
	c.Rest()
	tells(t, m, of(1, 2)...)
	end(t, m, api.OK)
}

// Rule R4: a cursor that is two sources stands in both at the same entry.
func TestTwice(t *testing.T) {
	r := rand.New(rand.NewSource(12))
	for range 50 {
		l := some(r, 40)
		lists := [][]api.Entry{some(r, 10), some(r, 10), some(r, 10)}
		c := read(t, l)
		m := made(t, lists, c, c, c)
		left(t, m, 6)
		want := slices.Concat(l, lists[0], lists[1], lists[2])
		slices.SortFunc(want, entry.Compare)
		tells(t, m, want...)
		end(t, m, api.OK)
	}
	c := read(t, of(1, 2))
	m := made(t, nil, c, c)
	tells(t, m, of(1)...)
	left(t, m, 2)
	tells(t, m, of(2)...)
	left(t, m, 0)
	end(t, m, api.OK)
}

// P11.2: Lists of any number of lists, and what it refuses.
func TestLists(t *testing.T) {
	for _, lists := range [][][]api.Entry{nil, {nil}, {nil, {}, nil}} {
		if l, errno := merge.Lists(lists); len(l) != 0 || errno != api.OK {
			t.Error(l, errno)
		}
	}
	if l, errno := merge.Lists([][]api.Entry{of(1, 1, 2)}); errno != api.OK || !slices.Equal(l, of(1, 1, 2)) {
		t.Error(l, errno)
	}
	for n, want := range map[int]api.Errno{64: api.OK, 65: api.ErrMany} {
		if l, errno := merge.Lists(slices.Repeat([][]api.Entry{of(1)}, n)); errno != want || want == api.OK && len(l) != n || want != api.OK && l != nil {
			t.Error(n, l, errno)
		}
	}
	if l, errno := merge.Lists([][]api.Entry{of(1), of(1, 3, 2)}); l != nil || errno != api.ErrArg {
		t.Error(l, errno)
	}
	if l, errno := merge.Lists(slices.Repeat([][]api.Entry{of(2, 1)}, 65)); l != nil || errno != api.ErrMany {
		t.Error(l, errno)
	}
}

// P11.2: of a nil Merger.
func TestNil(t *testing.T) {
	var m *merge.Merger
	end(t, m, api.ErrClosed)
	left(t, m, 0)
	m.Close()
	if l, errno := m.While(nil); l != nil || errno != api.ErrClosed {
		t.Error(l, errno)
	}
}

// Rule R3: lists that are handed in are neither changed nor kept, nor is the room behind their ends.
func TestArgumentsStay(t *testing.T) {
	a, b := of(1, 3, 5, 7, 7), of(2, 4, 6, 8, 8)
	lists := [][]api.Entry{a[:3], b[:3]}
	cursors := []*cursor.Cursor{read(t, of(3)), read(t, of(9))}
	m := made(t, lists, cursors[:1]...)
	if _, errno := merge.Lists(lists); errno != api.OK {
		t.Error(errno)
	}
	tells(t, m, of(1)...)
	if !slices.Equal(a, of(1, 3, 5, 7, 7)) || !slices.Equal(b, of(2, 4, 6, 8, 8)) {
		t.Error(a, b)
	}
	for i := range a {
		a[i], b[i] = most, least
	}
	lists[0], lists[1] = of(0), nil
	cursors[0] = cursors[1]
	if l, errno := m.Rest(); errno != api.OK || !slices.Equal(l, of(2, 3, 3, 4, 5, 6)) {
		t.Error(l, errno)
	}
}

// Rule R3: what is told is new memory: whoever writes there, or behind it, changes nothing.
func TestAnswersAreNew(t *testing.T) {
	spoil := func(l []api.Entry) {
		for i := range l[:cap(l)] {
			l[:cap(l)][i] = most
		}
	}
	a := of(1, 2, 3, 4, 5, 6)
	_, s := disk(t, upto(0, 25))
	p := frames(t, 2)
	for range 2 {
		m := made(t, [][]api.Entry{a}, start(t, p, s[0]))
		l, errno := m.While(below(3))
		kept := slices.Clone(l)
		if errno != api.OK || !slices.Equal(l, of(0, 1, 1, 2, 2)) {
			t.Fatal(l, errno)
		}
		rest, errno := m.Rest()
		if errno != api.OK || !slices.Equal(rest, slices.Concat(of(3, 3, 4, 4, 5, 5, 6, 6), upto(7, 25))) || !slices.Equal(l, kept) {
			t.Fatal(rest, l, errno)
		}
		spoil(rest)
		if !slices.Equal(l, kept) {
			t.Error(l)
		}
		spoil(l)
		l, _ = merge.Lists([][]api.Entry{a})
		spoil(l)
		if !slices.Equal(a, of(1, 2, 3, 4, 5, 6)) {
			t.Fatal(a)
		}
	}
}
