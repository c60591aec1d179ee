package store_test

import (
	"math"
	"math/rand"
	"slices"
	"strconv"
	"strings"
	"testing"

	"oxbow/api"
	"oxbow/entry"
	"oxbow/files"
	"oxbow/moment"
	"oxbow/pool"
	"oxbow/segment"
	"oxbow/store"
)

func at(epoch, round int) api.Moment {
	return api.Moment{Epoch: epoch, Round: round}
}

// of makes entries of epochs, rounds, keys and values, in turns.
func of(n ...int) []api.Entry {
	var l []api.Entry
	for i := 0; i < len(n); i += 4 {
		l = append(l, api.Entry{At: at(n[i], n[i+1]), Rec: api.Rec{Key: n[i+2], Val: n[i+3]}})
	}
	return l
}

// plain is n entries at a moment, in order: 10 of them are a page.
func plain(epoch, round, n int) []api.Entry {
	var l []api.Entry
	for i := range n {
		l = append(l, of(epoch, round, i/200, i%200)...)
	}
	return l
}

// some is n entries of few numbers: many are the same.
func some(r *rand.Rand, n int) []api.Entry {
	var l []api.Entry
	for range n {
		l = append(l, of(r.Intn(4), r.Intn(4), r.Intn(3), r.Intn(300))...)
	}
	return l
}

func sorted(lists ...[]api.Entry) []api.Entry {
	l := slices.Concat(lists...)
	slices.SortFunc(l, entry.Compare)
	return l
}

// base is that of a store's file of that count.
func base(count int) int {
	return 1 + count<<20
}

// kit is a store, and what it lies on.
type kit struct {
	*testing.T
	d *files.Disk
	p *pool.Pool
	*store.Store
}

// on is a store called s, of count 0, on a disk and a pool of its own.
func on(t *testing.T, limit, frames int) kit {
	t.Helper()
	d, _ := files.New(api.MaxSectors)
	p, errno := pool.New(frames)
	if errno != api.OK {
		t.Fatal(errno)
	}
	return kit{t, d, p, made(t, d, p, "s", limit, 0)}
}

func made(t *testing.T, d *files.Disk, p *pool.Pool, name string, limit, count int) *store.Store {
	t.Helper()
	s, errno := store.New(d, p, name, limit, count)
	if errno != api.OK || s == nil {
		t.Fatal(name, limit, count, errno)
	}
	return s
}

// ok asks that nothing was refused.
func (k kit) ok(errno api.Errno) {
	k.Helper()
	if errno != api.OK {
		k.Fatal("refused:", errno)
	}
}

func (k kit) refuses(errno, want api.Errno) {
	k.Helper()
	if errno != want {
		k.Fatalf("%d, want %d", errno, want)
	}
}

func (k kit) add(l ...api.Entry) {
	k.Helper()
	for _, e := range l {
		k.ok(k.Add(e))
	}
}

// part spills just these, in a store whose run is empty and has room for them.
func (k kit) part(l ...api.Entry) {
	k.Helper()
	k.add(l...)
	k.ok(k.Spill())
}

// lay writes a segment that is not the store's, and tells of it.
func (k kit) lay(name string, base int, l ...api.Entry) api.Ref {
	k.Helper()
	k.ok(segment.Write(k.d, name, base, l))
	return api.Ref{Name: name, Base: base, Count: len(l)}
}

// parts asks where the parts lie.
func (k kit) parts(want ...api.Ref) {
	k.Helper()
	if l := k.Parts(); !slices.Equal(l, want) {
		k.Fatalf("Parts: %v, want %v", l, want)
	}
}

// has asks which entries there are, and that reading them lets all pages go.
func (k kit) has(l ...api.Entry) {
	k.Helper()
	all, errno := k.All()
	if errno != api.OK || !slices.Equal(all, sorted(l)) || k.Len() != len(l) {
		k.Fatalf("All: %v, %d, Len %d, want %v", all, errno, k.Len(), sorted(l))
	}
	moments := []api.Moment{at(0, 0), at(-1, 0), at(math.MaxInt, math.MinInt)}
	for _, e := range l {
		moments = append(moments, e.At)
	}
	slices.SortFunc(moments, moment.Compare)
	for _, m := range slices.Compact(moments) {
		var want []api.Rec
		for _, e := range sorted(l) {
			if e.At == m {
				want = append(want, e.Rec)
			}
		}
		if got, errno := k.At(m); errno != api.OK || !slices.Equal(got, want) {
			k.Fatalf("At %v: %v, %d, want %v", m, got, errno, want)
		}
	}
	if k.p.Held() != 0 {
		k.Fatal("pages are held:", k.p.Held())
	}
}

// counts asks how many parts there are, how many entries in memory, and the count.
func (k kit) counts(parts, held, count int) {
	k.Helper()
	if n := len(k.Parts()); n != parts || k.Held() != held || k.Count() != count {
		k.Fatalf("%d parts, Held %d, Count %d, want %d, %d, %d", n, k.Held(), k.Count(), parts, held, count)
	}
}

// lies asks which files the disk has.
func (k kit) lies(names ...string) {
	k.Helper()
	var l []string
	for _, f := range k.d.List() {
		l = append(l, f.Name)
	}
	if !slices.Equal(l, names) {
		k.Fatalf("files %q, want %q", l, names)
	}
}

// keep asks how many entries go.
func (k kit) keep(want int, f ...api.Moment) {
	k.Helper()
	if n, errno := k.Keep(f); n != want || errno != api.OK {
		k.Fatalf("Keep %v: %d, %d, want %d", f, n, errno, want)
	}
}

// off lets the power go.
func (k kit) off() {
	k.Helper()
	k.ok(k.d.Stop(0))
	k.refuses(k.d.Create("x"), api.ErrOff)
}

// flip turns a bit of a sector.
func (k kit) flip(name string, i int) {
	k.Helper()
	k.ok(k.d.Flip(name, i, 100, 1))
}

// unread asks that nothing is told, and no page stays held.
func (k kit) unread(want api.Errno) {
	k.Helper()
	if l, errno := k.All(); l != nil || errno != want {
		k.Fatalf("All: %v, %d, want %d", l, errno, want)
	}
	if l, errno := k.At(at(0, 0)); l != nil || errno != want {
		k.Fatalf("At: %v, %d, want %d", l, errno, want)
	}
	if k.p.Held() != 0 {
		k.Fatal("pages are held:", k.p.Held())
	}
}

// P13.1: what New refuses, and that a store is empty.
func TestNew(t *testing.T) {
	d, _ := files.New(10)
	p, _ := pool.New(1)
	none := func(d *files.Disk, p *pool.Pool, name string, limit, count int, want api.Errno) {
		t.Helper()
		if s, errno := store.New(d, p, name, limit, count); s != nil || errno != want {
			t.Errorf("%q, %d, %d: %d, want %d", name, limit, count, errno, want)
		}
	}
	none(nil, p, "s", 1, 0, api.ErrClosed)
	none(d, nil, "s", 1, 0, api.ErrClosed)
	none(nil, nil, "", 0, -1, api.ErrClosed)
	for _, name := range []string{"", strings.Repeat("s", api.MaxPrefix+1), strings.Repeat("s", 1000)} {
		none(d, p, name, 1, 0, api.ErrArg)
	}
	for _, limit := range []int{math.MinInt, -1, 0, api.MaxRun + 1, math.MaxInt} {
		none(d, p, "s", limit, 0, api.ErrArg)
	}
	for _, count := range []int{math.MinInt, -1, 1<<30 + 1, math.MaxInt} {
		none(d, p, "s", 1, count, api.ErrArg)
	}
	for _, name := range []string{"s", "\x00.\xff", strings.Repeat("s", api.MaxPrefix)} {
		for _, limit := range []int{1, 2, api.MaxRun} {
			for _, count := range []int{0, 1, 9999, 1 << 30} {
				k := kit{t, d, p, made(t, d, p, name, limit, count)}
				k.counts(0, 0, count)
				k.has()
				k.parts()
				k.ok(k.Verify())
				k.ok(k.Spill())
				k.ok(k.Compact())
				k.keep(0)
				k.counts(0, 0, count)
			}
		}
	}
}

// P13.1, example 1: limit 1, two Adds: one part, one entry in the run.
func TestExample(t *testing.T) {
	k := on(t, 1, 1)
	k.add(of(1, 2, 3, 4, 0, 0, 7, 8)...)
	k.parts(api.Ref{Name: "s.0", Base: 1, Count: 1})
	k.counts(1, 1, 1)
	k.has(of(1, 2, 3, 4, 0, 0, 7, 8)...)
}

// P13.1: a part is a segment of the run's entries, called by the name and the count.
func TestPartsFile(t *testing.T) {
	for _, name := range []string{"s", "S2N10B0P1", strings.Repeat("x", api.MaxPrefix)} {
		for _, count := range []int{0, 1, 10, 255, 1<<30 - 1, 1 << 30} {
			d, _ := files.New(1000)
			p, _ := pool.New(2)
			k := kit{t, d, p, made(t, d, p, name, 40, count)}
			l := some(rand.New(rand.NewSource(int64(count))), 80)
			k.add(l...)
			k.ok(k.Spill())
			k.counts(2, 0, count+2)
			for i, r := range k.Parts() {
				if r.Name != name+"."+strconv.Itoa(count+i) || r.Base != base(count+i) || r.Count != 40 {
					t.Fatal(r)
				}
				s, errno := segment.Open(d, r.Name, r.Base)
				k.ok(errno)
				if x, errno := s.All(); errno != api.OK || !slices.Equal(x, sorted(l[40*i:40*i+40])) {
					t.Error(r, x, errno)
				}
			}
			if len(d.Pending()) != 0 {
				t.Error("not synced")
			}
			k.has(l...)
			k.ok(k.Verify())
		}
	}
}

// P13.1: what may not be is refused ahead of all else; a run spills when it is full, not ahead.
func TestAdd(t *testing.T) {
	k := on(t, 3, 9)
	wrong := func() {
		t.Helper()
		parts, held, count := len(k.Parts()), k.Held(), k.Count()
		for _, e := range of(-1, 0, 0, 0, 0, api.MaxRound, 0, 0, 0, -1, -1, -1) {
			k.refuses(k.Add(e), api.ErrMoment)
		}
		for _, e := range of(0, 0, -1, 0, 0, 0, 0, api.MaxNum+1) {
			k.refuses(k.Add(e), api.ErrRec)
		}
		k.counts(parts, held, count)
	}
	var l []api.Entry
	for i := range 10 {
		wrong()
		e := of(5-i%5, i%3, 7, i)
		l = append(l, e...)
		k.add(e...)
		k.counts(i/3, 1+i%3, i/3)
		k.has(l...)
	}
	wrong()
}

// P13.1: Spill empties the run, at any number of entries; an empty one is no part.
func TestSpill(t *testing.T) {
	k := on(t, 5, 9)
	k.ok(k.Spill())
	k.counts(0, 0, 0)
	k.lies()
	k.part(of(2, 0, 0, 0, 1, 0, 0, 0)...)
	k.parts(api.Ref{Name: "s.0", Base: 1, Count: 2})
	k.counts(1, 0, 1)
	k.ok(k.Spill())
	k.off()
	k.ok(k.Spill())
	k.d.Crash(nil)
	k.counts(1, 0, 1)
	k.part(of(1, 1, 1, 1)...)
	k.parts(api.Ref{Name: "s.0", Base: 1, Count: 2}, api.Ref{Name: "s.1", Base: 1<<20 + 1, Count: 1})
	k.counts(2, 0, 2)
	k.lies("s.0", "s.1")
	k.has(of(2, 0, 0, 0, 1, 0, 0, 0, 1, 1, 1, 1)...)
}

// P13.1, P13.2: there are MaxParts parts at most; that is told ahead of what the disk refuses, and the count stays.
func TestMany(t *testing.T) {
	k := on(t, 2, api.MaxParts)
	var l []api.Entry
	for i := range 2*api.MaxParts + 2 {
		l = append(l, of(i%7, 0, i, i)...)
		k.add(l[i])
	}
	many := func() {
		t.Helper()
		for range 2 {
			k.refuses(k.Spill(), api.ErrMany)
			k.refuses(k.Add(l[0]), api.ErrMany)
			k.refuses(k.Adopt(k.Parts()[0]), api.ErrMany)
			k.refuses(k.Adopt(api.Ref{}), api.ErrMany)
		}
		k.refuses(k.Add(of(-1, 0, 0, 0)[0]), api.ErrMoment)
		k.counts(api.MaxParts, 2, api.MaxParts)
	}
	many()
	k.has(l...)
	k.off()
	many()
	k.d.Crash(nil)
	k.ok(k.Compact())
	k.counts(1, 2, api.MaxParts+1)
	k.add(l[0])
	k.counts(2, 1, api.MaxParts+2)
	k.has(append(l, l[0])...)
}

// P13.1: what a write is refused is told; the count is one more, the entries are still in memory.
func TestSpillRefused(t *testing.T) {
	k := on(t, 2, 9)
	k.lay("s.0", 5, of(9, 9, 9, 9)...)
	k.lay("s.1", 5)
	l := of(3, 0, 0, 0, 2, 0, 0, 0)
	k.add(l...)
	k.refuses(k.Spill(), api.ErrTwice)
	k.counts(0, 2, 1)
	k.refuses(k.Add(of(1, 0, 0, 0)[0]), api.ErrTwice)
	k.counts(0, 2, 2)
	k.has(l...)
	k.off()
	k.refuses(k.Spill(), api.ErrOff)
	k.refuses(k.Add(l[0]), api.ErrOff)
	k.counts(0, 2, 4)
	k.has(l...)
	k.d.Crash(nil)
	k.lies("s.0", "s.1")
	k.add(of(1, 0, 0, 0)...)
	k.parts(api.Ref{Name: "s.4", Base: base(4), Count: 2})
	k.counts(1, 1, 5)
	k.has(append(l, of(1, 0, 0, 0)...)...)
	k.ok(k.Verify())
}

// P13.1: as much as there is room for is a part.
func TestNoRoom(t *testing.T) {
	d, _ := files.New(7)
	p, _ := pool.New(9)
	k := kit{t, d, p, made(t, d, p, "s", 4, 7)}
	l := plain(1, 1, 7)
	k.add(l[:3]...)
	k.ok(k.Spill()) // one page, its index, and the last page
	k.add(l[3:]...)
	k.ok(k.Spill())
	k.add(l[0])
	k.refuses(k.Spill(), api.ErrFull)
	k.counts(2, 1, 10)
	k.lies("s.7", "s.8", "s.9")
	k.refuses(k.Compact(), api.ErrFull)
	k.counts(2, 1, 11)
	k.has(append(l, l[0])...)
	k.lies("s.10", "s.7", "s.8", "s.9")
}

// P13.1, P13.4: whenever the power goes at a spill, nothing that was added is lost, nor told twice.
func TestSpillStopped(t *testing.T) {
	l := slices.Concat(plain(3, 0, 25), plain(1, 0, 25))
	done := 1 + 5 + 1 + 1 + 1 // it is created, five pages, the index, the last page, a sync
	for _, keep := range [][]int{nil, {64, 64, 64}, {64, 30}} {
		for n := range 20 {
			k := on(t, 50, 9)
			k.add(l...)
			k.ok(k.d.Stop(n))
			errno := k.Spill()
			if n >= done {
				k.ok(errno)
				k.counts(1, 0, 1)
			} else {
				k.refuses(errno, api.ErrOff)
				k.counts(0, 50, 1)
			}
			k.d.Crash(keep)
			k.has(l...)
			k.ok(k.Verify())
			k.ok(k.Spill())
			if n < done {
				k.parts(api.Ref{Name: "s.1", Base: base(1), Count: 50})
			} else {
				k.parts(api.Ref{Name: "s.0", Base: base(0), Count: 50})
			}
			k.has(l...)
		}
	}
}

// P13.1: of less than two parts nothing is done, whatever would be refused.
func TestCompactFew(t *testing.T) {
	k := on(t, 20, 0)
	k.ok(k.Compact())
	k.add(of(1, 1, 1, 1)...)
	k.ok(k.Compact())
	k.counts(0, 1, 0)
	k.part(of(2, 2, 2, 2)...)
	k.keep(0, at(1, 2), at(2, 1))
	k.flip("s.0", 0)
	k.off()
	k.ok(k.Compact())
	k.counts(1, 0, 1)
	k.lies("s.0")
}

// P13.1: the parts are one part, behind which the others are gone; the run is left alone.
func TestCompact(t *testing.T) {
	k := on(t, 30, 9)
	r := rand.New(rand.NewSource(5))
	a, b, c, d := some(r, 30), some(r, 1), some(r, 25), some(r, 7)
	k.part(a...)
	k.part(b...)
	k.ok(k.Adopt(k.lay("other", 77, sorted(c)...)))
	k.add(d...)
	k.has(slices.Concat(a, b, c, d)...)
	if k.p.Used() == 0 {
		t.Error("no pages at hand")
	}
	k.ok(k.Compact())
	if k.p.Used() != 0 {
		t.Error("pages at hand of files that are gone:", k.p.Used())
	}
	k.parts(api.Ref{Name: "s.2", Base: base(2), Count: 56})
	k.counts(1, 7, 3)
	k.lies("s.2")
	k.has(slices.Concat(a, b, c, d)...)
	k.ok(k.Verify())
	s, errno := segment.Open(k.d, "s.2", base(2))
	k.ok(errno)
	if l, errno := s.All(); errno != api.OK || !slices.Equal(l, sorted(a, b, c)) {
		t.Error(l, errno)
	}
	k.ok(k.Compact())
	k.counts(1, 7, 3)
}

// P13.1: one frame is enough to compact, and none is not: nothing changes.
func TestCompactPinned(t *testing.T) {
	k := on(t, 12, 0)
	k.part(plain(0, 0, 12)...)
	k.part(plain(0, 0, 11)...)
	k.refuses(k.Compact(), api.ErrPinned)
	k.counts(2, 0, 2)
	k.lies("s.0", "s.1")
	k = on(t, 12, 1)
	k.part(plain(0, 0, 12)...)
	k.part(plain(0, 0, 11)...)
	k.ok(k.Compact())
	k.counts(1, 0, 3)
	k.has(slices.Concat(plain(0, 0, 12), plain(0, 0, 11))...)
}

// P13.1: what reading is refused is told, and nothing changes; the power is looked at ahead, as all may be at hand.
func TestCompactUnread(t *testing.T) {
	k := on(t, 30, 9)
	l := plain(0, 0, 30)
	k.part(l...)
	k.part(l[:5]...)
	k.has(append(l, l[:5]...)...)
	k.off()
	k.has(append(l, l[:5]...)...) // all is at hand
	k.refuses(k.Compact(), api.ErrOff)
	k.counts(2, 0, 2)
	k.d.Crash(nil)
	for i := range 3 {
		k := on(t, 30, 9)
		k.part(l[:5]...)
		k.part(l...)
		k.part(l[:5]...)
		k.flip("s.1", i)
		k.refuses(k.Compact(), api.ErrRot)
		k.counts(3, 0, 3)
		k.lies("s.0", "s.1", "s.2")
		k.unread(api.ErrRot)
		k.refuses(k.Verify(), api.ErrRot)
		k.flip("s.1", i)
		k.ok(k.Compact())
		k.has(slices.Concat(l, l[:5], l[:5])...)
	}
	k = on(t, 30, 9)
	k.part(l...)
	k.part(l...)
	k.ok(k.d.Delete("s.0"))
	k.refuses(k.Compact(), api.ErrNone)
	k.counts(2, 0, 2)
	k.unread(api.ErrNone)
	k.refuses(k.Verify(), api.ErrNone)
	k.off()
	k.refuses(k.Compact(), api.ErrOff)
	k.unread(api.ErrOff)
	k.refuses(k.Verify(), api.ErrOff)
	k.counts(2, 0, 2)
}

// P13.1: what a write is refused is told; the parts are as they were, the count is one more.
func TestCompactRefused(t *testing.T) {
	k := on(t, 30, 9)
	l := slices.Concat(plain(0, 0, 15), plain(0, 1, 15), plain(1, 0, 30))
	k.part(l[:30]...)
	k.part(l[30:]...)
	k.keep(0, at(1, 0), at(0, 1))
	k.lay("s.2", 3)
	k.refuses(k.Compact(), api.ErrTwice)
	k.counts(2, 0, 3)
	k.lies("s.0", "s.1", "s.2")
	k.has(l...)
	k.ok(k.Compact()) // what was kept in mind still is
	k.parts(api.Ref{Name: "s.3", Base: base(3), Count: 45})
	k.lies("s.2", "s.3")
	k.has(l[15:]...)
}

// P13.1, P13.4: whenever the power goes at a compaction, nothing that was added is lost, nor told twice.
func TestCompactStopped(t *testing.T) {
	l := slices.Concat(plain(3, 0, 15), plain(1, 0, 12), plain(2, 0, 8))
	done := 1 + 4 + 1 + 1 + 1 // it is created, four pages, the index, the last page, a sync
	for _, keep := range [][]int{nil, {64, 64, 64}, {64, 30}} {
		for n := range 16 {
			k := on(t, 20, 9)
			k.part(l[:15]...)
			k.part(l[15:27]...)
			k.part(l[27:]...)
			k.ok(k.d.Stop(n))
			errno := k.Compact()
			switch {
			case n < done:
				k.refuses(errno, api.ErrOff)
				k.counts(3, 0, 4)
			case n < done+3:
				k.refuses(errno, api.ErrOff)
				k.counts(1, 0, 4)
			default:
				k.ok(errno)
				k.counts(1, 0, 4)
			}
			k.d.Crash(keep)
			k.has(l...)
			k.ok(k.Verify())
			if n >= done {
				all := []string{"s.0", "s.1", "s.2", "s.3"}
				k.lies(all[min(n-done, 3):]...)
			}
			k.ok(k.Compact())
			k.has(l...)
			k.add(l...)
			k.has(append(l, l...)...)
		}
	}
}

// P13.1: what Delete refuses of the others is told behind all else: the only part is there.
func TestCompactNotDeleted(t *testing.T) {
	for i, want := range []string{"s.1 s.2 s.3", "s.2 s.3", "s.3"} {
		k := on(t, 20, 9)
		l := slices.Concat(plain(3, 0, 15), plain(1, 0, 12), plain(2, 0, 8))
		k.part(l[:15]...)
		k.part(l[15:27]...)
		k.part(l[27:]...)
		k.has(l...)
		k.ok(k.d.Delete("s." + strconv.Itoa(i))) // what is at hand of it is still told
		k.refuses(k.Compact(), api.ErrNone)
		k.parts(api.Ref{Name: "s.3", Base: base(3), Count: 35})
		k.lies(strings.Fields(want)...)
		if k.p.Used() != 0 {
			t.Error("pages at hand of what are parts no more:", k.p.Used())
		}
		k.has(l...)
		k.ok(k.Verify())
	}
}

// P13.1: what the fronts did not cover is left out, of each part those since it was written.
func TestCompactLeavesOut(t *testing.T) {
	l := of(0, 0, 0, 0, 0, 3, 0, 0, 1, 1, 0, 0, 2, 2, 0, 0, 3, 0, 0, 0, 3, 3, 0, 0)
	left := func(l []api.Entry, fronts ...[]api.Moment) []api.Entry {
		return slices.DeleteFunc(slices.Clone(l), func(e api.Entry) bool {
			return slices.ContainsFunc(fronts, func(f []api.Moment) bool { return !moment.Covers(f, e.At) })
		})
	}
	fronts := [][]api.Moment{
		{at(0, 3), at(1, 1)},
		{at(2, 0)},
		{at(0, 2)},
		{at(3, 3)},
		{at(3, 0), at(0, 3)},
		{at(-7, math.MinInt)},
		{at(1, 1), at(0, 3), at(1, 1), at(9, 9)},
	}
	for _, f := range fronts {
		for _, g := range fronts {
			for _, h := range fronts {
				k := on(t, 20, 9)
				k.part(l...)
				k.keep(0, f...)
				k.part(l...)
				k.ok(k.Adopt(k.lay("other", 1, l...)))
				k.keep(0, g...)
				k.keep(0, h...)
				k.part(l...)
				k.has(slices.Repeat(l, 4)...)
				k.ok(k.Compact())
				rest := slices.Concat(left(l, f, g, h), left(l, g, h), left(l, g, h), l)
				k.counts(1, 0, 4)
				k.has(rest...)
				k.part(l[0])
				k.ok(k.Compact()) // what was kept in mind was of the parts ahead
				k.has(append(rest, l[0])...)
			}
		}
	}
}

// P13.1: if nothing is left nothing is written, and there is no part.
func TestCompactNothingLeft(t *testing.T) {
	k := on(t, 20, 9)
	k.part(of(0, 5, 0, 0, 5, 0, 0, 0)...)
	k.part(of(1, 5, 0, 0, 5, 1, 0, 0)...)
	k.keep(0, at(3, 3))
	k.add(of(0, 0, 0, 0)...)
	k.has(of(0, 5, 0, 0, 5, 0, 0, 0, 1, 5, 0, 0, 5, 1, 0, 0, 0, 0, 0, 0)...)
	k.off()
	k.refuses(k.Compact(), api.ErrOff)
	k.d.Crash(nil)
	k.ok(k.Compact())
	k.counts(0, 1, 2)
	k.lies()
	k.has(of(0, 0, 0, 0)...)
	k.ok(k.Spill())
	k.parts(api.Ref{Name: "s.2", Base: base(2), Count: 1})
	// Parts without entries have nothing that could be left.
	k = on(t, 20, 9)
	k.ok(k.Adopt(k.lay("a", 1)))
	k.ok(k.Adopt(k.lay("b", 1)))
	k.counts(2, 0, 0)
	k.has()
	k.ok(k.Compact())
	k.counts(0, 0, 0)
	k.lies()
}

// P13.1: as many entries as a segment may have are left, and not more; those that are left out do not count.
func TestCompactLong(t *testing.T) {
	l := plain(2, 0, api.MaxEntries)
	k := on(t, 20, 9)
	k.ok(k.Adopt(k.lay("a", 1, l...)))
	k.part(of(0, 2, 0, 0, 1, 0, 0, 0)...)
	long := func() {
		t.Helper()
		k.refuses(k.Compact(), api.ErrLong)
		k.counts(2, 0, 1)
		k.lies("a", "s.0")
		if k.Len() != api.MaxEntries+2 {
			t.Error(k.Len())
		}
	}
	long()
	k.keep(0, at(0, 1), at(2, 0)) // not (1, 0)
	long()
	k.keep(0, at(1, 0)) // not (0, 2)
	k.ok(k.Compact())
	k.lies("s.1")
	k.parts(api.Ref{Name: "s.1", Base: base(1), Count: api.MaxEntries})
}

// P13.2: a segment that lies on the disk is a further part.
func TestAdopt(t *testing.T) {
	k := on(t, 3, 9)
	a, b, c := plain(1, 0, 25), plain(0, 9, 1), plain(2, 0, 3)
	refs := []api.Ref{k.lay("a", 1<<61, a...), k.lay("b", 7, b...), k.lay("c", 1)}
	k.part(c...)
	for _, r := range refs {
		k.ok(k.Adopt(r))
	}
	k.parts(append([]api.Ref{{Name: "s.0", Base: 1, Count: 3}}, refs...)...)
	k.counts(4, 0, 1)
	k.has(slices.Concat(a, b, c)...)
	k.ok(k.Verify())
	k.ok(k.Adopt(refs[1])) // once more is twice
	k.has(slices.Concat(a, b, b, c)...)
	k.lies("a", "b", "c", "s.0")
}

// P13.2: what is no part: what Open refuses, then another count.
func TestAdoptRefused(t *testing.T) {
	k := on(t, 3, 9)
	l := plain(1, 0, 25)
	r := k.lay("a", 5, l...)
	k.ok(k.d.Create("empty"))
	refused := func(r api.Ref, want api.Errno) {
		t.Helper()
		k.refuses(k.Adopt(r), want)
		k.counts(0, 0, 0)
		k.lies("a", "empty")
	}
	refused(api.Ref{}, api.ErrArg)
	refused(api.Ref{Name: "a", Base: 0, Count: 25}, api.ErrArg)
	refused(api.Ref{Name: "a", Base: 1<<61 + 1, Count: 25}, api.ErrArg)
	refused(api.Ref{Name: "b", Base: 5, Count: 25}, api.ErrNone)
	refused(api.Ref{Name: "", Base: 5, Count: 0}, api.ErrNone)
	refused(api.Ref{Name: "a", Base: 6, Count: 25}, api.ErrRot)
	refused(api.Ref{Name: "empty", Base: 5, Count: 0}, api.ErrRot)
	for _, count := range []int{0, 24, 26, -25, math.MinInt, math.MaxInt} {
		refused(api.Ref{Name: "a", Base: 5, Count: count}, api.ErrRot)
	}
	for i := 3; i < 5; i++ {
		k.flip("a", i)
		refused(r, api.ErrRot)
		k.flip("a", i)
	}
	k.off()
	refused(r, api.ErrOff)
	k.d.Crash(nil)
	k.ok(k.Adopt(r))
	k.has(l...)
}

// P13.2: just the end and the index of what is adopted are looked at: a data page is not there any more when it is read.
func TestAdoptRotten(t *testing.T) {
	k := on(t, 3, 9)
	r := k.lay("a", 5, plain(0, 0, 25)...)
	k.flip("a", 1)
	k.ok(k.Adopt(r))
	k.parts(r)
	k.unread(api.ErrRot)
	k.refuses(k.Verify(), api.ErrRot)
	// Nobody knows what stood there: as long as a front could cover it, it stays.
	k.keep(0, at(api.MaxEpoch-1, api.MaxRound-1))
	k.keep(0, at(2, 0))
	k.flip("a", 1)
	k.has(plain(0, 0, 25)...)
	k.keep(25)
	k.lies()
}

// P13.2: a store has what is in memory and what is in parts, in one order.
func TestAt(t *testing.T) {
	k := on(t, 50, 4)
	k.part(slices.Concat(plain(1, 1, 20), plain(1, 2, 10), plain(0, 7, 10))...)
	k.part(slices.Concat(plain(1, 1, 11), plain(2, 0, 1))...)
	k.part(plain(0, 0, 35)...)
	k.add(slices.Concat(plain(1, 1, 5), plain(3, 3, 5))...)
	l, errno := k.At(at(1, 1))
	if errno != api.OK || len(l) != 36 {
		t.Fatal(l, errno)
	}
	for i, r := range l[:15] {
		if r != (api.Rec{Key: 0, Val: i / 3}) {
			t.Error(i, r)
		}
	}
	for _, m := range []api.Moment{at(1, 0), at(1, 3), at(0, 1), at(9, 9), at(-1, -1), at(1, -1), at(api.MaxEpoch, 0), at(math.MinInt, math.MaxInt), at(math.MaxInt, math.MaxInt)} {
		if l, errno := k.At(m); len(l) != 0 || errno != api.OK {
			t.Error(m, l, errno)
		}
	}
	k.has(slices.Concat(plain(1, 1, 20), plain(1, 2, 10), plain(0, 7, 10), plain(1, 1, 11), plain(2, 0, 1), plain(0, 0, 35), plain(1, 1, 5), plain(3, 3, 5))...)
}

// P13.2: pages are read through the pool: what is at hand is told without the power, all else is refused; each part that is read needs a frame.
func TestThroughPool(t *testing.T) {
	k := on(t, 30, 3)
	k.part(plain(0, 0, 10)...)
	k.part(plain(0, 0, 10)...)
	k.part(plain(1, 0, 10)...)
	if s := k.p.Stats(); s != (api.Stats{}) {
		t.Error(s)
	}
	l := slices.Concat(plain(0, 0, 10), plain(0, 0, 10), plain(1, 0, 10))
	k.has(l...)
	if s := k.p.Stats(); s.Reads != 3 || s.Hits == 0 || k.p.Used() != 3 {
		t.Error(s)
	}
	k.flip("s.0", 0)
	k.off()
	k.has(l...)
	k.p.Drop("s.0")
	k.unread(api.ErrOff)
	k.d.Crash(nil)
	k.unread(api.ErrRot)
	k.flip("s.0", 0)
	k.has(l...)
	for frames := range 3 {
		k := on(t, 30, frames)
		k.add(plain(0, 0, 5)...)
		k.has(plain(0, 0, 5)...)
		k.ok(k.Spill())
		k.part(plain(0, 0, 5)...)
		k.part(plain(0, 0, 5)...)
		k.unread(api.ErrPinned)
		k.counts(3, 0, 3)
		if r, errno := k.At(at(1, 0)); len(r) != 0 || errno != api.OK && errno != api.ErrPinned || k.p.Held() != 0 {
			t.Error(r, errno)
		}
	}
}

// P13.2: what is refused of a page behind the first one is told, too.
func TestRottenBehind(t *testing.T) {
	for i := range 4 {
		k := on(t, 40, 5)
		k.part(plain(0, 0, 40)...)
		k.part(plain(0, 0, 40)...)
		k.add(plain(0, 0, 3)...)
		k.flip("s.1", i)
		k.unread(api.ErrRot)
		k.refuses(k.Verify(), api.ErrRot)
		k.flip("s.1", i)
		k.has(slices.Concat(plain(0, 0, 40), plain(0, 0, 40), plain(0, 0, 3))...)
	}
}

// P13.2: Keep lets go what is in memory and not covered, and of parts those of which nothing could be covered.
func TestKeep(t *testing.T) {
	a, b, c := of(0, 5, 0, 0, 0, 5, 0, 0, 5, 0, 0, 0), of(1, 1, 0, 0), of(2, 0, 0, 0, 2, 1, 7, 7)
	memory := of(0, 5, 1, 1, 1, 1, 1, 1, 5, 5, 1, 1)
	for _, x := range []struct {
		f     []api.Moment
		parts string
		run   []api.Entry
	}{
		{nil, "", nil},
		{[]api.Moment{at(0, 0)}, "s.0 s.1 s.2", memory},
		{[]api.Moment{at(-9, -9)}, "s.0 s.1 s.2", memory},
		{[]api.Moment{at(5, 5)}, "s.0", memory[2:]}, // around them is (5, 5), though it covers none
		{[]api.Moment{at(1, 1)}, "s.0 s.1 s.2", memory[1:]},
		{[]api.Moment{at(2, 1)}, "s.0 s.2", memory[2:]},
		{[]api.Moment{at(2, 2)}, "s.0", memory[2:]},
		{[]api.Moment{at(0, 2)}, "s.0", []api.Entry{memory[0], memory[2]}},
		{[]api.Moment{at(6, 0), at(1, 1), at(1, 1)}, "s.0 s.1 s.2", memory[1:]},
		{[]api.Moment{at(6, 0), at(0, 6)}, "", nil},
		{[]api.Moment{at(math.MaxInt, math.MinInt), at(math.MinInt, math.MaxInt)}, "", nil},
		{[]api.Moment{at(math.MinInt, math.MinInt)}, "s.0 s.1 s.2", memory},
	} {
		k := on(t, 9, 9)
		k.part(a...)
		k.part(b...)
		k.part(c...)
		k.add(memory...)
		k.has(slices.Concat(a, b, c, memory)...)
		rest := slices.Clone(x.run)
		for i, l := range [][]api.Entry{a, b, c} {
			if strings.Contains(x.parts, strconv.Itoa(i)) {
				rest = append(rest, l...)
			}
		}
		k.keep(len(a)+len(b)+len(c)+len(memory)-len(rest), x.f...)
		k.lies(strings.Fields(x.parts)...)
		k.counts(len(strings.Fields(x.parts)), len(x.run), 3)
		if k.p.Used() != len(strings.Fields(x.parts)) {
			t.Error(x.f, "pages at hand:", k.p.Used())
		}
		k.has(rest...)
		k.keep(0, x.f...)
		k.ok(k.Verify())
	}
}

// P13.2: what is around a part's moments is asked of all its pages, also of one that was adopted.
func TestKeepAround(t *testing.T) {
	l := slices.Concat(plain(1, 0, 15), plain(2, 9, 1), plain(3, 0, 15), plain(4, 1, 1)) // around it is (4, 9)
	for _, adopted := range []bool{false, true} {
		for _, x := range []struct {
			f    api.Moment
			goes bool
		}{{at(4, 9), false}, {at(5, 0), true}, {at(0, 10), true}, {at(4, 10), true}, {at(5, 9), true}, {at(0, 9), false}, {at(4, 0), false}, {at(3, 3), false}} {
			k := on(t, 50, 9)
			if adopted {
				k.ok(k.Adopt(k.lay("a", 1, l...)))
			} else {
				k.part(l...)
			}
			if x.goes {
				k.keep(len(l), x.f)
				k.counts(0, 0, k.Count())
				k.lies()
				continue
			}
			k.keep(0, x.f)
			k.has(l...)
		}
	}
	// So it is behind a compaction.
	k := on(t, 50, 9)
	k.part(l[:16]...)
	k.part(l[16:]...)
	k.ok(k.Compact())
	k.keep(0, at(4, 9))
	k.keep(len(l), at(4, 10))
	k.lies()
}

// P13.2: for Keep nothing is read: neither what is not at hand, nor what is not there any more.
func TestKeepReadsNothing(t *testing.T) {
	k := on(t, 50, 9)
	k.part(plain(1, 0, 15)...)
	k.part(plain(2, 0, 15)...)
	k.ok(k.Adopt(k.lay("a", 1, plain(3, 0, 15)...)))
	for _, name := range []string{"a", "s.0", "s.1"} {
		for i := range 4 {
			k.flip(name, i)
		}
	}
	k.keep(15, at(2, 0))
	if k.p.Stats() != (api.Stats{}) {
		t.Error(k.p.Stats())
	}
	k.off()
	k.keep(0, at(2, 0))
	k.d.Crash(nil)
	k.keep(15, at(3, 0))
	k.keep(15, at(4, 0))
	k.lies()
}

// P13.2: what Delete refuses is told; that part is gone, those behind stay, and nothing is kept in mind for them.
func TestKeepRefused(t *testing.T) {
	f := []api.Moment{at(1, 2)}
	stays := of(0, 9, 0, 0, 1, 2, 0, 0)
	goes := of(1, 1, 0, 0, 1, 1, 5, 5, 0, 9, 0, 0)
	for _, off := range []bool{false, true} {
		k := on(t, 9, 9)
		k.part(stays...)
		k.part(goes...)
		k.part(stays...)
		k.part(goes[:1]...)
		k.ok(k.Adopt(k.lay("a", 1, of(1, 1, 8, 8)...)))
		k.add(of(1, 2, 3, 3, 0, 0, 4, 4)...)
		k.keep(0, at(1, 1), at(0, 0))
		want := api.ErrNone
		if off {
			want = api.ErrOff
			k.ok(k.d.Stop(0))
		} else {
			k.ok(k.d.Delete("s.3"))
		}
		front := f
		if off {
			front = []api.Moment{at(5, 5)} // covers no part: the first one is refused
		}
		n, errno := k.Keep(front)
		if off {
			if n != 2+2 || errno != want {
				t.Fatal(n, errno)
			}
			k.d.Crash(nil)
			k.counts(4, 0, 4)
			k.lies("a", "s.0", "s.1", "s.2", "s.3")
			k.has(slices.Concat(goes, stays, goes[:1], of(1, 1, 8, 8))...)
			k.ok(k.Compact())
			k.has(slices.Concat(goes, stays, goes[:1], of(1, 1, 8, 8))...)
			continue
		}
		if n != 1+1 || errno != want { // s.3, and of the run (0, 0)
			t.Fatal(n, errno)
		}
		k.counts(4, 1, 4)
		k.lies("a", "s.0", "s.1", "s.2")
		k.has(slices.Concat(stays, goes, stays, of(1, 1, 8, 8, 1, 2, 3, 3))...)
		k.ok(k.Compact())
		k.has(slices.Concat(stays[1:], stays[1:], of(1, 1, 8, 8, 1, 2, 3, 3))...)
	}
}

// P13.2: also of the parts behind that f covers somewhere: what it does not cover of them is not left out.
func TestKeepNotInMind(t *testing.T) {
	k := on(t, 9, 9)
	l := of(0, 9, 0, 0, 1, 2, 0, 0)
	k.part(l...)
	k.part(of(0, 0, 0, 0)...)
	k.part(l...)
	k.ok(k.d.Stop(0))
	n, errno := k.Keep([]api.Moment{at(1, 1)})
	if n != 1 || errno != api.ErrOff {
		t.Fatal(n, errno)
	}
	k.d.Crash(nil)
	k.parts(api.Ref{Name: "s.0", Base: base(0), Count: 2}, api.Ref{Name: "s.2", Base: base(2), Count: 2})
	k.ok(k.Compact())
	k.has(append(l, l[1])...)
	k.lies("s.1", "s.3")
}

// P13.3: Verify tells what a part's is refused first.
func TestVerify(t *testing.T) {
	k := on(t, 9, 9)
	k.ok(k.Verify())
	k.part(plain(1, 1, 9)...)
	k.part(plain(1, 1, 9)...)
	k.part(plain(1, 1, 9)...)
	k.has(slices.Repeat(plain(1, 1, 9), 3)...)
	for i := range 3 {
		for j := range 3 {
			k.ok(k.Verify())
			k.flip("s."+strconv.Itoa(i), j)
			k.refuses(k.Verify(), api.ErrRot)
			k.flip("s."+strconv.Itoa(i), j)
		}
	}
	k.flip("s.1", 0)
	k.ok(k.d.Delete("s.2"))
	k.refuses(k.Verify(), api.ErrRot)
	k.ok(k.d.Delete("s.0"))
	k.refuses(k.Verify(), api.ErrNone)
	k.off()
	k.refuses(k.Verify(), api.ErrOff)
}

// P13.3: of a nil Store.
func TestNil(t *testing.T) {
	for _, s := range []*store.Store{nil, {}} {
		k := kit{t, nil, nil, s}
		for _, e := range of(0, 0, 0, 0, -1, 0, 0, 0) {
			k.refuses(s.Add(e), api.ErrClosed)
		}
		k.refuses(s.Spill(), api.ErrClosed)
		k.refuses(s.Compact(), api.ErrClosed)
		k.refuses(s.Adopt(api.Ref{Name: "a", Base: 1}), api.ErrClosed)
		k.refuses(s.Adopt(api.Ref{}), api.ErrClosed)
		k.refuses(s.Verify(), api.ErrClosed)
		if l, errno := s.At(at(0, 0)); l != nil || errno != api.ErrClosed {
			t.Error(l, errno)
		}
		if l, errno := s.All(); l != nil || errno != api.ErrClosed {
			t.Error(l, errno)
		}
		if n, errno := s.Keep([]api.Moment{at(0, 0)}); n != 0 || errno != api.ErrClosed {
			t.Error(n, errno)
		}
		k.counts(0, 0, 0)
		if s.Len() != 0 {
			t.Error(s.Len())
		}
	}
}

// Rule R3: answers are new memory, what is handed in is neither changed nor kept.
func TestMemory(t *testing.T) {
	k := on(t, 20, 9)
	l := of(0, 9, 0, 0, 1, 2, 0, 0, 1, 2, 3, 3)
	k.part(l...)
	k.part(l...)
	k.add(l...)
	k.has(slices.Repeat(l, 3)...)
	for range 2 {
		all, _ := k.All()
		clear(all[:cap(all)])
		records, _ := k.At(at(1, 2))
		clear(records[:cap(records)])
		parts := k.Parts()
		clear(parts[:cap(parts)])
		k.has(slices.Repeat(l, 3)...)
	}
	f := []api.Moment{at(1, 2), at(9, 9), at(0, 0)}
	k.keep(1, f[:2]...)
	if !slices.Equal(f, []api.Moment{at(1, 2), at(9, 9), at(0, 0)}) {
		t.Error(f)
	}
	clear(f)
	k.ok(k.Compact())
	k.has(slices.Repeat(l[1:], 3)...)
}

// P13.4: what is at hand of a file that is there no more is not told of a later one of that name.
func TestNameAgain(t *testing.T) {
	k := on(t, 20, 9)
	k.part(plain(1, 0, 15)...)
	k.part(plain(1, 0, 15)...)
	k.has(slices.Repeat(plain(1, 0, 15), 2)...)
	k.ok(k.d.Delete("s.0"))
	k.ok(k.d.Delete("s.1"))
	k.Store = made(t, k.d, k.p, "s", 20, 0)
	k.part(plain(2, 0, 12)...)
	k.has(plain(2, 0, 12)...)
	k.part(plain(1, 5, 17)...)
	k.has(slices.Concat(plain(2, 0, 12), plain(1, 5, 17))...)
	if s := made(t, k.d, k.p, "t", 20, 0); s.Len() != 0 {
		t.Error(s.Len())
	}
}

// Two stores on one disk and in one pool do not know of each other.
func TestTwoStores(t *testing.T) {
	k := on(t, 5, 4)
	o := kit{t, k.d, k.p, made(t, k.d, k.p, "o", 7, 0)}
	a, b := plain(1, 0, 17), plain(0, 1, 17)
	for i := range 17 {
		k.add(a[i])
		o.add(b[i])
	}
	k.has(a...)
	o.has(b...)
	k.ok(k.Compact())
	o.keep(17)
	k.has(a...)
	o.has()
	k.lies("s.3")
}

// model is a store as plain lists.
type model struct {
	run   []api.Entry
	parts []lying
	count int
}

type lying struct {
	ref    api.Ref
	l      []api.Entry
	fronts [][]api.Moment
}

func (m *model) all() []api.Entry {
	l := slices.Clone(m.run)
	for _, p := range m.parts {
		l = append(l, p.l...)
	}
	return l
}

func (m *model) write(l []api.Entry) lying {
	ref := api.Ref{Name: "s." + strconv.Itoa(m.count), Base: base(m.count), Count: len(l)}
	m.count++
	return lying{ref: ref, l: l}
}

func (m *model) spill() api.Errno {
	switch {
	case len(m.run) == 0:
		return api.OK
	case len(m.parts) == api.MaxParts:
		return api.ErrMany
	}
	m.parts = append(m.parts, m.write(m.run))
	m.run = nil
	return api.OK
}

func (m *model) compact() {
	if len(m.parts) < 2 {
		return
	}
	var left []api.Entry
	for _, p := range m.parts {
		for _, e := range p.l {
			if !slices.ContainsFunc(p.fronts, func(f []api.Moment) bool { return !moment.Covers(f, e.At) }) {
				left = append(left, e)
			}
		}
	}
	m.parts = nil
	if len(left) > 0 {
		m.parts = []lying{m.write(left)}
	}
}

func (m *model) keep(f []api.Moment) int {
	before := len(m.all())
	m.run = slices.DeleteFunc(m.run, func(e api.Entry) bool { return !moment.Covers(f, e.At) })
	m.parts = slices.DeleteFunc(m.parts, func(p lying) bool {
		var around api.Moment
		for _, e := range p.l {
			around = moment.Join(around, e.At)
		}
		return !moment.Covers(f, around)
	})
	for i := range m.parts {
		m.parts[i].fronts = append(m.parts[i].fronts, f)
	}
	return before - len(m.all())
}

// P13.1 to P13.4: whatever is called, a store tells what plain lists have.
func TestAgainstLists(t *testing.T) {
	for seed := range int64(60) {
		r := rand.New(rand.NewSource(seed))
		limit := 1 + r.Intn(40)
		k := on(t, limit, api.MaxParts)
		m := &model{}
		for range 150 {
			switch r.Intn(12) {
			case 0:
				k.refuses(k.Spill(), m.spill())
			case 1:
				m.compact()
				k.ok(k.Compact())
			case 2, 3:
				f := []api.Moment{at(r.Intn(5), r.Intn(5)), at(r.Intn(6), r.Intn(6)), at(r.Intn(7), r.Intn(7))}[:r.Intn(8)/2]
				k.keep(m.keep(f), f...)
			case 4:
				l := sorted(some(r, 1+r.Intn(20)))
				ref := k.lay("x"+strconv.Itoa(r.Int()), 1+r.Intn(1000), l...)
				if len(m.parts) == api.MaxParts {
					k.refuses(k.Adopt(ref), api.ErrMany)
					k.ok(k.d.Delete(ref.Name))
					break
				}
				m.parts = append(m.parts, lying{ref: ref, l: l})
				k.ok(k.Adopt(ref))
			default:
				for _, e := range some(r, r.Intn(limit+1)) {
					want := api.OK
					if len(m.run) == limit {
						want = m.spill()
					}
					if want == api.OK {
						m.run = append(m.run, e)
					}
					k.refuses(k.Add(e), want)
				}
			}
			m.holds(k)
		}
	}
}

// holds asks that a store, and its disk, are as the model.
func (m *model) holds(k kit) {
	k.Helper()
	var refs []api.Ref
	var names []string
	for _, p := range m.parts {
		refs = append(refs, p.ref)
		names = append(names, p.ref.Name)
	}
	slices.Sort(names)
	k.parts(refs...)
	k.counts(len(m.parts), len(m.run), m.count)
	k.lies(names...)
	k.has(m.all()...)
	k.ok(k.Verify())
}
