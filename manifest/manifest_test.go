package manifest_test

import (
	"math/rand"
	"slices"
	"strconv"
	"testing"

	"oxbow/api"
	"oxbow/edit"
	"oxbow/files"
	"oxbow/manifest"
	"oxbow/page"
)

const (
	journal = "journal"
	fresh   = "journal.new"
)

func round(epoch, round int, refs ...api.Ref) api.Edit {
	return api.Edit{Kind: api.EditRound, At: api.Moment{Epoch: epoch, Round: round}, Refs: refs}
}

func done(epoch int, refs ...api.Ref) api.Edit {
	return api.Edit{Kind: api.EditDone, At: api.Moment{Epoch: epoch}, Refs: refs}
}

// refs is a ref of each name.
func refs(names ...string) []api.Ref {
	var l []api.Ref
	for i, name := range names {
		l = append(l, api.Ref{Name: name, Base: 1 + i, Count: i})
	}
	return l
}

// many is n refs, 4 bytes long each.
func many(n int) []api.Ref {
	return slices.Repeat(refs("a"), n)
}

// pages is the rows of edits, the first one's tag being 1.
func pages(t *testing.T, l ...api.Edit) [][]byte {
	t.Helper()
	var all [][]byte
	for _, e := range l {
		b, errno := edit.Put(e)
		if errno != api.OK {
			t.Fatal(e, errno)
		}
		all = append(all, row(t, 1+len(all), b)...)
	}
	return all
}

func row(t *testing.T, tag int, b []byte) [][]byte {
	t.Helper()
	l, errno := page.Row(tag, b)
	if errno != api.OK {
		t.Fatal(errno)
	}
	return l
}

func disk(t *testing.T, limit int) *files.Disk {
	t.Helper()
	d, errno := files.New(limit)
	if errno != api.OK {
		t.Fatal(errno)
	}
	return d
}

// lay makes a file of sectors, and syncs it.
func lay(t *testing.T, d *files.Disk, name string, l ...[]byte) {
	t.Helper()
	errno := d.Create(name)
	for _, s := range l {
		errno = max(errno, d.Append(name, s))
	}
	if errno = max(errno, d.Sync(name)); errno != api.OK {
		t.Fatal(name, errno)
	}
}

func open(t *testing.T, d *files.Disk) *manifest.Journal {
	t.Helper()
	j, errno := manifest.Open(d)
	if errno != api.OK || j == nil || j.Broken() {
		t.Fatal("Open:", j, errno)
	}
	return j
}

func commit(t *testing.T, j *manifest.Journal, l ...api.Edit) {
	t.Helper()
	for _, e := range l {
		if errno := j.Commit(e); errno != api.OK {
			t.Fatal("Commit:", e, errno)
		}
	}
}

// holds asks which sectors a file has.
func holds(t *testing.T, d *files.Disk, name string, want [][]byte) {
	t.Helper()
	n, errno := d.Size(name)
	if errno != api.OK || n != len(want) {
		t.Fatalf("%s: %d sectors, %d, want %d", name, n, errno, len(want))
	}
	for i, s := range want {
		if b, errno := d.Read(name, i); errno != api.OK || string(b) != string(s) {
			t.Fatalf("%s: sector %d is %q, %d, want %q", name, i, b, errno, s)
		}
	}
}

func sameEdits(a, b []api.Edit) bool {
	return slices.EqualFunc(a, b, edit.Same)
}

// says asks for the edits to which the state comes.
func says(t *testing.T, j *manifest.Journal, want ...api.Edit) {
	t.Helper()
	s := j.State()
	if s == nil || !sameEdits(s.Edits(), want) {
		t.Fatalf("says %v, want %v", s.Edits(), want)
	}
}

// names asks which files there are.
func names(t *testing.T, d *files.Disk, want ...string) {
	t.Helper()
	var l []string
	for _, f := range d.List() {
		l = append(l, f.Name)
	}
	if !slices.Equal(l, want) {
		t.Fatalf("files %q, want %q", l, want)
	}
}

// P15.1: a disk of no journal says nothing, and is laid a file without pages.
func TestOpenNew(t *testing.T) {
	d := disk(t, 0)
	j := open(t, d)
	says(t, j)
	names(t, d, journal)
	holds(t, d, journal, nil)
	if j.Pages() != 0 {
		t.Error(j.Pages())
	}
	if n, errno := j.Clean(); n != 0 || errno != api.OK {
		t.Error(n, errno)
	}
}

// P15.1: what may not be opened.
func TestOpenRefused(t *testing.T) {
	if j, errno := manifest.Open(nil); j != nil || errno != api.ErrClosed {
		t.Error(j, errno)
	}
	d := disk(t, 9)
	d.Stop(0)
	d.Create("a")
	if j, errno := manifest.Open(d); j != nil || errno != api.ErrOff {
		t.Error(j, errno)
	}
	names(t, d)
	d.Crash(nil)
	open(t, d)
	names(t, d, journal)
}

// P15.1: a commit is its edit's row, behind the others' and with the next tags, and synced.
func TestCommit(t *testing.T) {
	d := disk(t, 99)
	j := open(t, d)
	var l []api.Edit
	for _, e := range []api.Edit{
		round(0, 0),
		round(0, 3, many(30)...),
		done(0, refs("b", "a")...),
		round(1, 5),
		round(1, 6, many(9)...), // 4 bytes, and 4 a ref: 40 in all
		round(1, 7, many(10)...),
		done(1),
	} {
		commit(t, j, e)
		l = append(l, e)
		want := pages(t, l...)
		holds(t, d, journal, want)
		if j.Pages() != len(want) || len(d.Pending()) != 0 || j.Broken() {
			t.Fatal(e, j.Pages(), d.Pending())
		}
		says(t, j, come(t, l...)...)
	}
	names(t, d, journal)
	again := open(t, d)
	says(t, again, l[2], l[6])
	holds(t, d, journal, pages(t, l[2], l[6]))
	if again.Pages() != 2 {
		t.Error(again.Pages())
	}
	commit(t, again, round(2, 0))
	holds(t, d, journal, pages(t, l[2], l[6], round(2, 0)))
}

// come is the edits to which edits come.
func come(t *testing.T, l ...api.Edit) []api.Edit {
	t.Helper()
	s := edit.New()
	for _, e := range l {
		if errno := s.Apply(e); errno != api.OK {
			t.Fatal(e, errno)
		}
	}
	return s.Edits()
}

// P15.1: what Apply refuses is refused ahead of any deed, and breaks nothing.
func TestCommitRefused(t *testing.T) {
	d := disk(t, 99)
	j := open(t, d)
	commit(t, j, done(0), round(1, 4))
	d.Stop(0)
	for e, want := range map[*api.Edit]api.Errno{
		{}:                           api.ErrEdit,
		{Kind: 3}:                    api.ErrEdit,
		edited(round(1, -1)):         api.ErrEdit,
		edited(done(1, refs("")...)): api.ErrEdit,
		edited(round(1, 5, many(api.MaxRefs+1)...)): api.ErrEdit,
		edited(round(1, 4)):                         api.ErrArg,
		edited(round(1, 3)):                         api.ErrArg,
		edited(round(0, 9)):                         api.ErrArg,
		edited(round(2, 0)):                         api.ErrArg,
		edited(done(0)):                             api.ErrArg,
		edited(done(2)):                             api.ErrArg,
	} {
		if errno := j.Commit(*e); errno != want {
			t.Error(*e, errno, want)
		}
	}
	if d.Off() || j.Broken() || j.Pages() != 2 {
		t.Error(d.Off(), j.Broken(), j.Pages())
	}
	says(t, j, done(0), round(1, 4))
	holds(t, d, journal, pages(t, done(0), round(1, 4)))
}

func edited(e api.Edit) *api.Edit {
	return &e
}

// closed asks that a broken journal does nothing any more, and still says what it said.
func closed(t *testing.T, j *manifest.Journal, pages int, want ...api.Edit) {
	t.Helper()
	for range 2 {
		if !j.Broken() || j.Pages() != pages {
			t.Fatal("Broken:", j.Broken(), "Pages:", j.Pages(), "want:", pages)
		}
		says(t, j, want...)
		for _, e := range []api.Edit{{}, round(0, 1), round(1, 9), done(0), done(1)} {
			if errno := j.Commit(e); errno != api.ErrClosed {
				t.Fatal("Commit:", errno)
			}
		}
		if errno := j.Renew(); errno != api.ErrClosed {
			t.Fatal("Renew:", errno)
		}
		if n, errno := j.Clean(); n != 0 || errno != api.ErrClosed {
			t.Fatal("Clean:", n, errno)
		}
	}
}

// P15.1: a deed that is refused breaks the journal; it counts the pages ahead of it.
func TestCommitBreaks(t *testing.T) {
	said := []api.Edit{done(0), round(1, 4, refs("a")...)}
	for _, e := range []api.Edit{round(1, 9, many(30)...), done(1, many(30)...)} { // 3 pages and a sync
		for n := range 4 {
			d := disk(t, 99)
			j := open(t, d)
			commit(t, j, said...)
			d.Stop(n)
			if errno := j.Commit(e); errno != api.ErrOff || !d.Off() {
				t.Fatal(n, errno)
			}
			closed(t, j, 2+n, said...)
			d.Crash(nil)
			closed(t, j, 2+n, said...)
			names(t, d, journal)
			says(t, open(t, d), said...)
		}
	}
	d := disk(t, 4)
	j := open(t, d)
	commit(t, j, said...)
	if errno := j.Commit(round(1, 9, many(30)...)); errno != api.ErrFull {
		t.Fatal(errno)
	}
	closed(t, j, 4, said...)
	d = disk(t, 99)
	j = open(t, d)
	d.Delete(journal)
	if errno := j.Commit(done(0)); errno != api.ErrNone {
		t.Fatal(errno)
	}
	closed(t, j, 0)
}

// P15.1: without a mark ahead there is none behind a commit that breaks the journal.
func TestCommitBreaksUnmarked(t *testing.T) {
	for _, e := range []api.Edit{round(1, 0), done(1)} {
		d := disk(t, 99)
		j := open(t, d)
		commit(t, j, round(0, 2), done(0, refs("a")...))
		d.Stop(0)
		if errno := j.Commit(e); errno != api.ErrOff {
			t.Fatal(errno)
		}
		closed(t, j, 2, done(0, refs("a")...))
	}
}

// P15.1: Renew leaves what the state needs, and other files as they are; what was left of another laying goes.
func TestRenew(t *testing.T) {
	d := disk(t, 99)
	j := open(t, d)
	lay(t, d, "other")
	lay(t, d, fresh, make([]byte, api.Sector))
	commit(t, j, round(0, 1, many(60)...), done(0, refs("other")...), round(1, 2), round(1, 3, many(20)...))
	left := []api.Edit{done(0, refs("other")...), round(1, 3, many(20)...)}
	for range 2 {
		if errno := j.Renew(); errno != api.OK {
			t.Fatal(errno)
		}
		names(t, d, journal, "other")
		holds(t, d, journal, pages(t, left...))
		says(t, j, left...)
		if j.Pages() != 3 || len(d.Pending()) != 0 || j.Broken() {
			t.Fatal(j.Pages(), d.Pending())
		}
	}
	commit(t, j, done(1))
	holds(t, d, journal, pages(t, append(left, done(1))...))
}

// P15.1: which deeds a laying is, one behind the other; Pages are of the file that was created last.
func TestRenewBreaks(t *testing.T) {
	said := []api.Edit{done(0), round(1, 2, many(20)...)} // 1 page, 2 pages
	steps := []struct {
		pages int
		fresh int // how many sectors journal.new has, -1: it is not there
	}{
		{5, 1},  // its deletion
		{5, -1}, // its creation
		{0, 0},  // the first page
		{1, 1},
		{2, 2},
		{3, 3}, // the sync
		{3, 3}, // the renaming
	}
	for n, s := range steps {
		d := disk(t, 99)
		j := open(t, d)
		commit(t, j, round(0, 1, many(20)...))
		commit(t, j, said...)
		lay(t, d, fresh, make([]byte, api.Sector))
		d.Stop(n)
		if errno := j.Renew(); errno != api.ErrOff {
			t.Fatal(n, errno)
		}
		closed(t, j, s.pages, said...)
		if size, errno := d.Size(fresh); errno == api.OK && size != s.fresh || errno != api.OK && s.fresh >= 0 {
			t.Error(n, size, errno)
		}
		if pending := len(d.Pending()); n == 5 && pending != 3 || n == 6 && pending != 0 {
			t.Error(n, pending)
		}
		d.Crash(nil)
		says(t, open(t, d), said...)
		names(t, d, journal)
	}
}

// P15.1: Renew refused by a disk that has no room for both files.
func TestRenewFull(t *testing.T) {
	d := disk(t, 5)
	j := open(t, d)
	commit(t, j, done(0), round(1, 2, many(15)...))
	if errno := j.Renew(); errno != api.ErrFull {
		t.Fatal(errno)
	}
	closed(t, j, 2, done(0), round(1, 2, many(15)...))
	if l, errno := manifest.Open(d); l != nil || errno != api.ErrFull {
		t.Error(l, errno)
	}
	full := disk(t, 5)
	j = open(t, full)
	commit(t, j, done(0))
	for i := range api.MaxFiles - 1 {
		lay(t, full, strconv.Itoa(i))
	}
	if errno := j.Renew(); errno != api.ErrFull {
		t.Fatal(errno)
	}
	closed(t, j, 1, done(0))
}

// P15.1, P15.2: files that are not needed go, by rising names.
func TestClean(t *testing.T) {
	files := []string{"Journal", "a", "b", "c", fresh, "journal1", "journam", "z"}
	kept := []api.Edit{done(0, refs("c", "a", "not there")...), round(1, 0, refs("journal1", "a")...)}
	gone := []string{"Journal", "b", fresh, "journam", "z"}
	for n := range len(gone) + 1 {
		d := disk(t, 99)
		j := open(t, d)
		commit(t, j, kept...)
		for _, name := range files {
			lay(t, d, name)
		}
		d.Stop(n)
		want := api.ErrOff
		if n == len(gone) {
			want = api.OK
		}
		if m, errno := j.Clean(); m != n || errno != want || j.Broken() {
			t.Fatal(n, m, errno, j.Broken())
		}
		left := slices.DeleteFunc(append([]string{journal}, files...), func(s string) bool { return slices.Contains(gone[:n], s) })
		slices.Sort(left)
		names(t, d, left...)
		if n == len(gone) {
			if m, errno := j.Clean(); m != 0 || errno != api.OK {
				t.Error(m, errno)
			}
		}
		says(t, j, kept...)
	}
}

// P15.1: Open does the same, ahead of laying the journal anew.
func TestOpenCleans(t *testing.T) {
	said := []api.Edit{done(0, refs("c", "a")...), round(1, 0, refs("e")...)}
	for n := range 8 { // b, d and journal.new go; a file is created, 2 pages, a sync, a renaming
		d := disk(t, 99)
		lay(t, d, journal, pages(t, said...)...)
		for _, name := range []string{"a", "b", "c", "d", "e", fresh} {
			lay(t, d, name, make([]byte, api.Sector))
		}
		d.Stop(n)
		if j, errno := manifest.Open(d); j != nil || errno != api.ErrOff {
			t.Fatal(n, j, errno)
		}
		all := []string{"a", "b", "c", "d", "e", journal, fresh}
		switch n {
		case 0:
			names(t, d, all...)
		case 1:
			names(t, d, slices.Delete(all, 1, 2)...)
		case 2:
			names(t, d, "a", "c", "e", journal, fresh)
		case 3:
			names(t, d, "a", "c", "e", journal)
		default:
			names(t, d, "a", "c", "e", journal, fresh)
		}
		d.Crash(nil)
		holds(t, d, journal, pages(t, said...))
		j := open(t, d)
		says(t, j, said...)
		names(t, d, "a", "c", "e", journal)
		if j.Pages() != 2 {
			t.Error(j.Pages())
		}
	}
}

// P15.1: a file journal.new that the state needs is left by Clean, but not where the journal is laid.
func TestNeededNew(t *testing.T) {
	d := disk(t, 99)
	lay(t, d, fresh)
	lay(t, d, journal, pages(t, done(0, refs(fresh, journal)...))...)
	d.Stop(0)
	manifest.Open(d)
	names(t, d, journal, fresh)
	d.Crash(nil)
	j := open(t, d)
	names(t, d, journal)
	lay(t, d, fresh)
	if n, errno := j.Clean(); n != 0 || errno != api.OK {
		t.Error(n, errno)
	}
	if errno := j.Renew(); errno != api.OK {
		t.Error(errno)
	}
	names(t, d, journal)
	says(t, j, done(0, refs(fresh, journal)...))
}

// P15.1: a journal says what its rows say, up to the first place at which that ends.
func TestSays(t *testing.T) {
	good := []api.Edit{round(0, 1, many(30)...), done(0), round(1, 2, many(12)...)} // 3 pages, 1, 2
	all := pages(t, good...)
	behind := func(b []byte) [][]byte { return slices.Concat(all, row(t, 1+len(all), b)) }
	next, _ := edit.Put(round(1, 3))
	back, _ := edit.Put(round(1, 2))
	type file struct {
		said int // how many of the edits
		l    [][]byte
	}
	l := []file{
		{0, nil},
		{0, all[:2]},
		{1, all[:3]},
		{2, all[:4]},
		{2, all[:5]},
		{3, all},
		{0, all[1:]},
		{0, all[3:]},
		{1, slices.Concat(all[:3], all[:3])},
		{1, slices.Concat(all[:3], all[4:])},
		{2, slices.Concat(all[:5], [][]byte{make([]byte, api.Sector)}, row(t, 7, next))},
		{3, slices.Concat(all, [][]byte{make([]byte, api.Sector)}, row(t, 8, next))},
		{3, slices.Concat(all, row(t, 8, next))},
		{3, behind(nil)},
		{3, behind([]byte("no edit"))},
		{3, behind(back)},                                      // it does not go on
		{3, slices.Concat(behind(back), row(t, 8, next))},      // and what stands behind it is not said
		{3, slices.Concat(behind([]byte{1}), row(t, 8, next))}, // nor behind what is no edit
		{3, behind(append(slices.Clone(next), 0))},             // an edit, and more
		{3, slices.Concat(all, [][]byte{plain(t, 7, next)})},   // a page, but of no row
	}
	for i := range all {
		turned := slices.Clone(all)
		turned[i] = slices.Clone(turned[i])
		turned[i][20] ^= 16
		l = append(l, file{[]int{0, 0, 0, 1, 2, 2}[i], turned})
	}
	for i, f := range l {
		d := disk(t, 99)
		lay(t, d, journal, f.l...)
		j := open(t, d)
		if want := come(t, good[:f.said]...); !sameEdits(j.State().Edits(), want) {
			t.Errorf("%d: says %v, want %v", i, j.State().Edits(), want)
		}
		holds(t, d, journal, pages(t, j.State().Edits()...))
	}
	d := disk(t, 99)
	lay(t, d, journal, behind(next)...)
	says(t, open(t, d), done(0), round(1, 3))
}

// plain is a page that holds bytes alone.
func plain(t *testing.T, tag int, b []byte) []byte {
	t.Helper()
	s, errno := page.Put(tag, b)
	if errno != api.OK {
		t.Fatal(errno)
	}
	return s
}

// P15.1: what is pending of the journal is read as it was written last.
func TestOpenPending(t *testing.T) {
	d := disk(t, 99)
	d.Create(journal)
	for _, s := range pages(t, done(0), done(1, many(20)...)) {
		d.Append(journal, s)
	}
	says(t, open(t, d), done(0), done(1, many(20)...))
	if l := d.Pending(); len(l) != 0 {
		t.Error(l)
	}
}

// P15.2: a nil Journal, and one that Open did not make.
func TestNoJournal(t *testing.T) {
	closed(t, nil, 0)
	closed(t, &manifest.Journal{}, 0)
}

// scene is a disk on which a journal is written, and what was said behind each commit.
type scene struct {
	*testing.T
	r    *rand.Rand
	d    *files.Disk
	now  []api.Edit // what the journal said behind the last commit
	next []api.Edit // and what it says if the one that goes on is there
}

// any is an edit that goes on.
func (s *scene) any() api.Edit {
	st := edit.New()
	for _, e := range s.now {
		st.Apply(e)
	}
	mark, _ := st.Mark()
	if s.r.Intn(3) == 0 {
		return done(st.Next(), many(s.r.Intn(40))...)
	}
	return round(st.Next(), mark.At.Round+1+s.r.Intn(3), many(s.r.Intn(40))...)
}

// write commits and renews until the power goes.
func (s *scene) write(j *manifest.Journal) {
	s.Helper()
	for {
		s.next = s.now
		errno := api.OK
		if s.r.Intn(4) == 0 {
			errno = j.Renew()
		} else {
			e := s.any()
			s.next = come(s.T, append(slices.Clone(s.now), e)...)
			errno = j.Commit(e)
		}
		if errno == api.ErrOff {
			return
		}
		if errno != api.OK {
			s.Fatal(errno)
		}
		s.now = s.next
		says(s.T, j, s.now...)
	}
}

// crash keeps of each pending write all, nothing, or some bytes.
func (s *scene) crash() {
	var keep []int
	for range s.d.Pending() {
		keep = append(keep, []int{0, api.Sector, s.r.Intn(api.Sector)}[s.r.Intn(3)])
	}
	s.d.Crash(keep)
}

// open opens the journal, with the power going so many times meanwhile.
func (s *scene) open(times int) *manifest.Journal {
	s.Helper()
	for range times {
		s.d.Stop(s.r.Intn(6))
		if _, errno := manifest.Open(s.d); errno != api.OK && errno != api.ErrOff {
			s.Fatal(errno)
		}
		s.crash()
	}
	j := open(s.T, s.d)
	got := j.State().Edits()
	switch {
	case sameEdits(got, s.next):
		s.now = s.next
	case !sameEdits(got, s.now):
		s.Fatalf("says %v, want %v or %v", got, s.now, s.next)
	}
	names(s.T, s.d, journal)
	return j
}

// P15.3: whenever the power goes, and whatever is kept.
func TestCrashes(t *testing.T) {
	for seed := range 300 {
		r := rand.New(rand.NewSource(int64(seed)))
		s := &scene{T: t, r: r, d: disk(t, 2000)}
		j := s.open(r.Intn(4))
		for range 10 {
			s.d.Stop(r.Intn(30))
			s.write(j)
			s.crash()
			j = s.open(r.Intn(4))
		}
	}
}

// Example 1: the power goes at the sync, and all pages are kept; P15.3: with one of them lost the edit is not there.
func TestExample(t *testing.T) {
	e := round(0, 1, many(30)...) // 3 pages
	for lost := range 4 {
		d := disk(t, 99)
		j := open(t, d)
		d.Stop(3)
		if errno := j.Commit(e); errno != api.ErrOff || len(d.Pending()) != 3 {
			t.Fatal(errno)
		}
		keep := []int{64, 64, 64, 64}
		keep[lost] = 0
		d.Crash(keep)
		if lost == 3 {
			says(t, open(t, d), e)
		} else {
			says(t, open(t, d))
		}
	}
}

// Rule R3: what was committed, and the state that is answered, are the journal's no more.
func TestMemory(t *testing.T) {
	d := disk(t, 99)
	j := open(t, d)
	room := append(make([]api.Ref, 0, 4), refs("a", "b")...)
	commit(t, j, round(0, 1, room...))
	clear(room[:cap(room)])
	s := j.State()
	if errno := s.Apply(done(0)); errno != api.OK {
		t.Fatal(errno)
	}
	for _, e := range j.State().Edits() {
		clear(e.Refs[:cap(e.Refs)])
	}
	says(t, j, round(0, 1, refs("a", "b")...))
	commit(t, j, done(0))
	if s.Next() != 1 || j.State().Next() != 1 {
		t.Error(s.Next())
	}
	commit(t, j, done(1))
	if s.Next() != 1 {
		t.Error(s.Next())
	}
}

// A journal of as many epochs as a disk has sectors is written in little time.
func TestManyEpochs(t *testing.T) {
	d := disk(t, api.MaxSectors)
	j := open(t, d)
	for epoch := range api.MaxSectors / 4 {
		commit(t, j, done(epoch))
	}
	if errno := j.Renew(); errno != api.OK || j.Pages() != api.MaxSectors/4 || j.State().Next() != api.MaxSectors/4 {
		t.Error(errno, j.Pages())
	}
}
