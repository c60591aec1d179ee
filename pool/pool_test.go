package pool_test

import (
	"math"
	"math/rand"
	"slices"
	"strconv"
	"testing"

	"oxbow/api"
	"oxbow/files"
	"oxbow/pool"
	"oxbow/segment"
)

// plain is so many pages of entries in order: 10 of them are one. They tell of which file they are.
func plain(file, pages int) []api.Entry {
	var l []api.Entry
	for i := range 10 * pages {
		l = append(l, api.Entry{At: api.Moment{Epoch: file, Round: i / 100}, Rec: api.Rec{Key: i % 100, Val: 7}})
	}
	return l
}

// disk has segments of so many pages each; they are called 0, 1, .. .
func disk(t *testing.T, pages ...int) (*files.Disk, []*segment.Segment) {
	t.Helper()
	d, errno := files.New(api.MaxSectors)
	if errno != api.OK {
		t.Fatal(errno)
	}
	var l []*segment.Segment
	for k, n := range pages {
		name := strconv.Itoa(k)
		written := segment.Write(d, name, 1+1000*k, plain(k, n))
		s, errno := segment.Open(d, name, 1+1000*k)
		if written != api.OK || errno != api.OK || s.Pages() != n {
			t.Fatal(k, written, errno)
		}
		l = append(l, s)
	}
	return d, l
}

// one is a disk with one segment.
func one(t *testing.T, pages int) (*files.Disk, *segment.Segment) {
	t.Helper()
	d, l := disk(t, pages)
	return d, l[0]
}

func made(t *testing.T, frames int) *pool.Pool {
	t.Helper()
	p, errno := pool.New(frames)
	if errno != api.OK {
		t.Fatal(frames, errno)
	}
	return p
}

// off lets the power go.
func off(d *files.Disk) {
	d.Stop(0)
	d.Create("x")
}

// hold holds pages, one behind the other, that have to be held.
func hold(t *testing.T, p *pool.Pool, s *segment.Segment, pages ...int) {
	t.Helper()
	for _, i := range pages {
		if l, errno := p.Hold(s, i); errno != api.OK || !slices.Equal(l, contents(s, i)) {
			t.Fatalf("Hold of %d: %v, %d", i, l, errno)
		}
	}
}

// contents is what a page of a segment that disk wrote has.
func contents(s *segment.Segment, i int) []api.Entry {
	file, _ := strconv.Atoi(s.Name())
	return plain(file, s.Pages())[10*i : 10*i+10]
}

func free(t *testing.T, p *pool.Pool, s *segment.Segment, pages ...int) {
	t.Helper()
	for _, i := range pages {
		if errno := p.Free(s.Name(), i); errno != api.OK {
			t.Fatalf("Free of %d: %d", i, errno)
		}
	}
}

// touch holds pages and frees each at once.
func touch(t *testing.T, p *pool.Pool, s *segment.Segment, pages ...int) {
	t.Helper()
	for _, i := range pages {
		hold(t, p, s, i)
		free(t, p, s, i)
	}
}

// has asks which pages of a segment are at hand: these, and no others.
func has(t *testing.T, p *pool.Pool, s *segment.Segment, pages ...int) {
	t.Helper()
	for i := -1; i <= s.Pages(); i++ {
		if p.Has(s.Name(), i) != slices.Contains(pages, i) {
			t.Fatalf("Has(%s, %d) is %v, at hand are to be %v", s.Name(), i, p.Has(s.Name(), i), pages)
		}
	}
}

// counts asks how many frames are held, and are not empty, and what was done.
func counts(t *testing.T, p *pool.Pool, held, used, hits, reads, losses int) {
	t.Helper()
	if p.Held() != held || p.Used() != used || p.Stats() != (api.Stats{Hits: hits, Reads: reads, Losses: losses}) {
		t.Fatalf("held %d, used %d, %v; want %d, %d, %d %d %d", p.Held(), p.Used(), p.Stats(), held, used, hits, reads, losses)
	}
}

// refused asks that a page is not told, and why.
func refused(t *testing.T, p *pool.Pool, s *segment.Segment, i int, want api.Errno) {
	t.Helper()
	if l, errno := p.Hold(s, i); len(l) != 0 || errno != want {
		t.Fatalf("Hold of %d: %v, %d, want %d", i, l, errno, want)
	}
}

// P9.1: New, and that its frames are empty; P9.2: Frames.
func TestNew(t *testing.T) {
	for _, n := range []int{-1, math.MinInt, api.MaxFrames + 1, math.MaxInt} {
		if p, errno := pool.New(n); p != nil || errno != api.ErrArg {
			t.Error(n, errno)
		}
	}
	for _, n := range []int{0, 1, 2, 1000, api.MaxFrames} {
		p := made(t, n)
		counts(t, p, 0, 0, 0, 0, 0)
		if p.Frames() != n {
			t.Error(n, p.Frames())
		}
	}
}

// P9.1, example 1: both marks go, and page 0 goes.
func TestExample(t *testing.T) {
	_, s := one(t, 4)
	p := made(t, 2)
	touch(t, p, s, 0, 1)
	has(t, p, s, 0, 1)
	counts(t, p, 0, 2, 0, 2, 0)
	hold(t, p, s, 2)
	has(t, p, s, 1, 2)
	counts(t, p, 1, 2, 0, 3, 1)
	// Page 1 has no mark any more, and the hand is at it.
	free(t, p, s, 2)
	hold(t, p, s, 3)
	has(t, p, s, 2, 3)
	counts(t, p, 1, 2, 0, 4, 2)
}

// P9.1: a page that is at hand is held once more, and marked.
func TestHits(t *testing.T) {
	_, s := one(t, 4)
	p := made(t, 2)
	hold(t, p, s, 0, 0, 0)
	counts(t, p, 1, 1, 2, 1, 0)
	free(t, p, s, 0, 0)
	counts(t, p, 1, 1, 2, 1, 0)
	free(t, p, s, 0)
	counts(t, p, 0, 1, 2, 1, 0)
	touch(t, p, s, 1, 2) // both marks went, and page 0
	touch(t, p, s, 1)    // marked again: the hand, which is at it, takes the mark, that of page 2, and then page 1
	touch(t, p, s, 3)
	has(t, p, s, 2, 3)
	counts(t, p, 0, 2, 3, 4, 2)
}

// P9.1: the mark of a hit counts: the page that was hit stays.
func TestMarkStays(t *testing.T) {
	_, s := one(t, 6)
	p := made(t, 3)
	touch(t, p, s, 0, 1, 2, 3) // page 3 in the place of page 0, the marks of 1 and 2 are gone, the hand is at 1
	touch(t, p, s, 1)
	touch(t, p, s, 4) // 1 loses its mark, 2 goes
	has(t, p, s, 1, 3, 4)
	touch(t, p, s, 5) // 3 loses its mark, 1 has none
	has(t, p, s, 3, 4, 5)
}

// P9.1: an empty frame has it ahead of all others, the first one, and the hand stays.
func TestEmptyFirst(t *testing.T) {
	_, l := disk(t, 6, 3)
	s, other := l[0], l[1]
	p := made(t, 4)
	touch(t, p, s, 0)
	touch(t, p, other, 0)
	touch(t, p, s, 1)
	touch(t, p, other, 1)
	if n := p.Drop("1"); n != 2 {
		t.Fatal(n)
	}
	counts(t, p, 0, 2, 0, 4, 0)
	touch(t, p, s, 2, 3) // in the frames 1 and 3
	counts(t, p, 0, 4, 0, 6, 0)
	touch(t, p, s, 4)
	has(t, p, s, 1, 2, 3, 4)
	touch(t, p, s, 5)
	has(t, p, s, 1, 3, 4, 5)
	p.Drop("0")
	touch(t, p, s, 0, 1, 2, 3, 4) // the hand is at frame 2 still
	has(t, p, s, 0, 1, 3, 4)
}

// P9.1: one that is held is passed over, and keeps its mark.
func TestPassedOver(t *testing.T) {
	_, s := one(t, 6)
	p := made(t, 3)
	touch(t, p, s, 0, 1, 2, 3) // 3 in frame 0, the hand is at frame 1; the marks of 1 and 2 are gone
	hold(t, p, s, 1)
	touch(t, p, s, 4) // 1 is passed over, 2 goes
	has(t, p, s, 1, 3, 4)
	free(t, p, s, 1)
	touch(t, p, s, 5) // the hand is at frame 0; 1 has its mark still: all marks go, and then 3
	has(t, p, s, 1, 4, 5)
	hold(t, p, s, 1, 4)
	for _, i := range []int{0, 2, 3, 5, 0} { // just one frame may go, wherever the hand is
		touch(t, p, s, i)
		has(t, p, s, 1, 4, i)
	}
}

// P9.1: if all are held, there is no place, and the hand and the marks stay.
func TestPinned(t *testing.T) {
	_, s := one(t, 6)
	none := made(t, 0)
	refused(t, none, s, 0, api.ErrPinned)
	counts(t, none, 0, 0, 0, 0, 0)

	p := made(t, 3)
	touch(t, p, s, 0, 1, 2, 3) // 3 in frame 0, the hand is at frame 1; the marks of 1 and 2 are gone
	hold(t, p, s, 1, 2, 3)
	for range 4 {
		refused(t, p, s, 4, api.ErrPinned)
		has(t, p, s, 1, 2, 3)
		counts(t, p, 3, 3, 3, 4, 1)
	}
	free(t, p, s, 1, 2, 3)
	touch(t, p, s, 4) // all are marked: the hand comes around, and frame 1 is the place
	has(t, p, s, 2, 3, 4)
	touch(t, p, s, 5)
	has(t, p, s, 3, 4, 5)

	single := made(t, 1)
	hold(t, single, s, 0)
	refused(t, single, s, 1, api.ErrPinned)
	hold(t, single, s, 0)
	free(t, single, s, 0)
	refused(t, single, s, 1, api.ErrPinned)
	free(t, single, s, 0)
	hold(t, single, s, 1)
	counts(t, single, 1, 1, 1, 2, 1)
}

// P9.1: what Page refuses is told ahead of ErrPinned; nothing has changed then.
func TestRefused(t *testing.T) {
	d, s := one(t, 6)
	d.Flip("0", 3, 100, 1)
	for _, frames := range []int{0, 1, 2, 3} {
		p := made(t, frames)
		for i := range min(frames, 2) {
			hold(t, p, s, i)
		}
		held := p.Held()
		all := func(what api.Errno) {
			t.Helper()
			for _, i := range []int{-1, 6, math.MinInt, math.MaxInt} {
				refused(t, p, s, i, api.ErrNone)
			}
			refused(t, p, s, 3, what)
			refused(t, p, nil, 0, api.ErrClosed)
			refused(t, p, &segment.Segment{}, 0, api.ErrClosed)
			counts(t, p, held, held, 0, held, 0)
		}
		all(api.ErrRot)
		off(d)
		all(api.ErrOff)
		d.Crash(nil)
	}
	// The hand and the marks stay too.
	p := made(t, 2)
	touch(t, p, s, 0, 1)
	refused(t, p, s, 3, api.ErrRot)
	touch(t, p, s, 2) // frame 0 was the place
	refused(t, p, s, 3, api.ErrRot)
	has(t, p, s, 1, 2)
	touch(t, p, s, 4)
	has(t, p, s, 2, 4)
}

// P9.1: a page that is at hand is told whatever has become of its file, and of whatever segment of that file's name.
func TestHitsWithoutTheFile(t *testing.T) {
	d, s := one(t, 3)
	p := made(t, 2)
	hold(t, p, s, 0, 1)
	d.Flip("0", 0, 100, 1)
	hold(t, p, s, 0)
	off(d)
	hold(t, p, s, 0, 1)
	refused(t, p, s, 2, api.ErrOff)
	d.Crash(nil)
	d.Delete("0")
	hold(t, p, s, 0, 1)
	counts(t, p, 2, 2, 5, 2, 0)
	segment.Write(d, "0", 50, nil)
	again, errno := segment.Open(d, "0", 50)
	if l, held := p.Hold(again, 1); errno != api.OK || held != api.OK || !slices.Equal(l, contents(s, 1)) {
		t.Error(l, held, errno)
	}
	refused(t, p, again, 2, api.ErrNone)
}

// P9.1: Free of what is held, as often as it is.
func TestFree(t *testing.T) {
	_, l := disk(t, 4, 4)
	p := made(t, 3)
	hold(t, p, l[0], 1)
	hold(t, p, l[1], 2, 2)
	wrong := func(name string, i int) {
		t.Helper()
		if errno := p.Free(name, i); errno != api.ErrNone {
			t.Errorf("Free(%s, %d): %d", name, i, errno)
		}
	}
	none := func() {
		t.Helper()
		for _, i := range []int{-1, 0, 3, 4, math.MaxInt, math.MinInt} {
			for _, name := range []string{"0", "1", "", "x"} {
				wrong(name, i)
			}
		}
		wrong("0", 2)
		wrong("1", 1)
	}
	none()
	counts(t, p, 2, 2, 1, 2, 0)
	free(t, p, l[1], 2)
	counts(t, p, 2, 2, 1, 2, 0)
	free(t, p, l[1], 2)
	wrong("1", 2)
	counts(t, p, 1, 2, 1, 2, 0)
	free(t, p, l[0], 1)
	wrong("0", 1)
	none()
	counts(t, p, 0, 2, 1, 2, 0)
	has(t, p, l[0], 1)
	has(t, p, l[1], 2)
}

// P9.1: Drop makes empty what is not held, of that file.
func TestDrop(t *testing.T) {
	d, l := disk(t, 4, 4)
	p := made(t, 6)
	dropped := func(name string, want int) {
		t.Helper()
		if n := p.Drop(name); n != want {
			t.Errorf("Drop(%s): %d, want %d", name, n, want)
		}
	}
	dropped("0", 0)
	dropped("", 0)
	touch(t, p, l[0], 0, 1, 2)
	touch(t, p, l[1], 0, 1)
	hold(t, p, l[0], 1)
	dropped("x", 0)
	dropped("", 0)
	counts(t, p, 1, 5, 1, 5, 0)
	dropped("0", 2)
	has(t, p, l[0], 1)
	has(t, p, l[1], 0, 1)
	dropped("0", 0)
	counts(t, p, 1, 3, 1, 5, 0)
	free(t, p, l[0], 1)
	off(d)
	hold(t, p, l[1], 0, 1) // still at hand
	dropped("1", 0)
	dropped("0", 1)
	counts(t, p, 2, 2, 3, 5, 0)
	refused(t, p, l[0], 1, api.ErrOff)
	d.Crash(nil)
	free(t, p, l[1], 0, 1)
	dropped("1", 2)
	counts(t, p, 0, 0, 3, 5, 0)
	touch(t, p, l[1], 0)
	counts(t, p, 0, 1, 3, 6, 0)
}

// P9.3: a file of a dropped name is read anew.
func TestReadAnew(t *testing.T) {
	d, s := one(t, 3)
	p := made(t, 3)
	touch(t, p, s, 0, 1, 2)
	d.Delete("0")
	written := plain(9, 2)
	segment.Write(d, "0", 5, written)
	again, errno := segment.Open(d, "0", 5)
	if errno != api.OK || p.Drop("0") != 3 {
		t.Fatal(errno)
	}
	for i := range 2 {
		if l, errno := p.Hold(again, i); errno != api.OK || !slices.Equal(l, written[10*i:10*i+10]) {
			t.Error(i, l, errno)
		}
	}
}

// A frame of the plain model; one without a name is empty.
type slot struct {
	name string
	i    int
	held int
	mark bool
}

// model is a pool as the document tells it, frame by frame.
type model struct {
	slots []slot
	hand  int
	stats api.Stats
}

func (m *model) find(name string, i int) *slot {
	for k := range m.slots {
		if m.slots[k].name == name && m.slots[k].i == i {
			return &m.slots[k]
		}
	}
	return nil
}

// hold is what Hold tells of a page of which Page tells that.
func (m *model) hold(name string, i int, page api.Errno) api.Errno {
	if s := m.find(name, i); s != nil {
		s.held++
		s.mark = true
		m.stats.Hits++
		return api.OK
	}
	if page != api.OK {
		return page
	}
	at := -1
	free := 0
	for k := len(m.slots) - 1; k >= 0; k-- {
		if m.slots[k].name == "" {
			at = k
		}
		if m.slots[k].held == 0 {
			free++
		}
	}
	if free == 0 {
		return api.ErrPinned
	}
	if at < 0 {
		m.stats.Losses++
	}
	for at < 0 {
		s := &m.slots[m.hand]
		if s.held == 0 && !s.mark {
			at = m.hand
		}
		if s.held == 0 {
			s.mark = false
		}
		m.hand++
		if m.hand == len(m.slots) {
			m.hand = 0
		}
	}
	m.stats.Reads++
	m.slots[at] = slot{name, i, 1, true}
	return api.OK
}

func (m *model) free(name string, i int) api.Errno {
	s := m.find(name, i)
	if s == nil || s.held == 0 {
		return api.ErrNone
	}
	s.held--
	return api.OK
}

func (m *model) drop(name string) int {
	n := 0
	for k, s := range m.slots {
		if s.name == name && s.held == 0 {
			m.slots[k] = slot{}
			n++
		}
	}
	return n
}

// same holds a pool against the model.
func (m *model) same(t *testing.T, p *pool.Pool, l []*segment.Segment) {
	t.Helper()
	held, used := 0, 0
	for _, s := range m.slots {
		if s.held > 0 {
			held++
		}
		if s.name != "" {
			used++
		}
	}
	counts(t, p, held, used, m.stats.Hits, m.stats.Reads, m.stats.Losses)
	for _, s := range l {
		for i := range s.Pages() + 1 {
			if p.Has(s.Name(), i) != (m.find(s.Name(), i) != nil) {
				t.Fatalf("Has(%s, %d): %v", s.Name(), i, p.Has(s.Name(), i))
			}
		}
	}
}

// P9.1, P9.2, P9.3: pools held against the model, call by call.
func TestModel(t *testing.T) {
	r := rand.New(rand.NewSource(9))
	for round := range 300 {
		frames := round % 8
		d, l := disk(t, 4, 3, 2)
		rot := r.Intn(4)
		d.Flip("0", rot, 30, 1<<16|1)
		p := made(t, frames)
		m := &model{slots: make([]slot, frames)}
		for range 200 {
			s := l[r.Intn(len(l))]
			i := r.Intn(s.Pages() + 1)
			switch r.Intn(12) {
			case 0:
				if n, want := p.Drop(s.Name()), m.drop(s.Name()); n != want {
					t.Fatalf("Drop(%s): %d, want %d", s.Name(), n, want)
				}
			case 1, 2, 3, 4, 5:
				if errno, want := p.Free(s.Name(), i), m.free(s.Name(), i); errno != want {
					t.Fatalf("Free(%s, %d): %d, want %d", s.Name(), i, errno, want)
				}
			default:
				_, page := s.Page(i)
				want := m.hold(s.Name(), i, page)
				x, errno := p.Hold(s, i)
				if errno != want || errno != api.OK && len(x) > 0 || errno == api.OK && !slices.Equal(x, contents(s, i)) {
					t.Fatalf("Hold(%s, %d): %v, %d, want %d", s.Name(), i, x, errno, want)
				}
			}
			m.same(t, p, l)
		}
	}
}

// P9.1: as many frames as there may be, all in use.
func TestManyFrames(t *testing.T) {
	_, s := one(t, 1100)
	p := made(t, api.MaxFrames)
	for i := range api.MaxFrames {
		hold(t, p, s, i)
	}
	counts(t, p, 1024, 1024, 0, 1024, 0)
	refused(t, p, s, 1024, api.ErrPinned)
	free(t, p, s, 777)
	hold(t, p, s, 1024)
	counts(t, p, 1024, 1024, 0, 1025, 1)
	if p.Has("0", 777) || !p.Has("0", 776) || !p.Has("0", 1024) {
		t.Error("Has")
	}
}

// P9.2: of a nil Pool.
func TestNil(t *testing.T) {
	_, s := one(t, 2)
	for _, p := range []*pool.Pool{nil, {}} {
		refused(t, p, s, 0, api.ErrClosed)
		refused(t, p, s, 9, api.ErrClosed)
		refused(t, p, nil, 0, api.ErrClosed)
		if errno := p.Free("0", 0); errno != api.ErrClosed {
			t.Error(errno)
		}
		if p.Drop("0") != 0 || p.Drop("") != 0 || p.Has("0", 0) || p.Has("", 0) || p.Frames() != 0 {
			t.Error("nil")
		}
		counts(t, p, 0, 0, 0, 0, 0)
	}
}

// R3: entries that were told are new memory: whoever writes there changes neither the page nor other answers.
func TestAnswersAreNew(t *testing.T) {
	_, s := one(t, 2)
	p := made(t, 1)
	var told [][]api.Entry
	for range 3 {
		l, errno := p.Hold(s, 1)
		if errno != api.OK || !slices.Equal(l, contents(s, 1)) {
			t.Fatal(l, errno)
		}
		for _, x := range told {
			if !slices.Equal(x, make([]api.Entry, 10)) {
				t.Error("an answer ahead has changed")
			}
		}
		clear(l[:cap(l)])
		told = append(told, l)
	}
	hold(t, p, s, 1)
}
