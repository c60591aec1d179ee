package segment_test

import (
	"bytes"
	"math"
	"math/rand"
	"slices"
	"strconv"
	"testing"

	"oxbow/api"
	"oxbow/entry"
	"oxbow/files"
	"oxbow/num"
	"oxbow/page"
	"oxbow/segment"
)

const (
	name    = "seg"
	maxBase = 1 << 61
)

var badBases = []int{0, -1, math.MinInt, maxBase + 1, math.MaxInt}

// odd is an entry that may not be.
var odd = api.Entry{At: api.Moment{Epoch: -1}, Rec: api.Rec{Key: -1}}

// of makes entries of epochs, rounds, keys and values, in turns.
func of(n ...int) []api.Entry {
	var l []api.Entry
	for i := 0; i < len(n); i += 4 {
		l = append(l, api.Entry{At: api.Moment{Epoch: n[i], Round: n[i+1]}, Rec: api.Rec{Key: n[i+2], Val: n[i+3]}})
	}
	return l
}

// some is n entries in order, of bytes of all sizes; some of them are the same.
func some(n int, seed int64) []api.Entry {
	r := rand.New(rand.NewSource(seed))
	moments := []int{0, 1, 240, 2288, api.MaxEpoch - 1}
	records := []int{0, 1, 7, 240, 2287, 2288, 65536, api.MaxNum}
	var l []api.Entry
	for range n {
		l = append(l, of(moments[r.Intn(len(moments))], moments[r.Intn(len(moments))], records[r.Intn(len(records))], records[r.Intn(len(records))])...)
	}
	slices.SortFunc(l, entry.Compare)
	return l
}

// plain is n entries in order, of 4 bytes each: 10 of them are a pack.
func plain(n int) []api.Entry {
	var l []api.Entry
	for i := range n {
		l = append(l, of(1, i/10000, i/100%100, i%100)...)
	}
	return l
}

// lists are entries in order, in all numbers.
func lists() [][]api.Entry {
	all := [][]api.Entry{nil, {}, plain(1), plain(10), plain(11), plain(100), plain(101), plain(110), plain(111), plain(2000), some(3000, 1), plain(api.MaxEntries)}
	for n := range 60 {
		all = append(all, some(n, int64(n)))
	}
	for _, n := range []int{2, 10, 11, 100, 101, 400} {
		all = append(all, slices.Repeat(of(1, 2, 3, 4), n))
	}
	all = append(all, slices.Repeat(of(api.MaxEpoch-1, api.MaxRound-1, api.MaxNum, api.MaxNum), api.MaxEntries))
	return all
}

func bytesOf(l ...int) []byte {
	var b []byte
	for _, n := range l {
		x, _ := num.Put(n)
		b = append(b, x...)
	}
	return b
}

func coded(l []api.Entry) []byte {
	var b []byte
	for _, e := range l {
		b = append(b, bytesOf(e.At.Epoch, e.At.Round, e.Rec.Key, e.Rec.Val)...)
	}
	return b
}

// packed is entries in packs, each as full as can be, entry by entry.
func packed(l []api.Entry) [][]api.Entry {
	var packs [][]api.Entry
	from := 0
	for i := range l {
		if len(coded(l[from:i+1])) > 43 {
			packs = append(packs, l[from:i])
			from = i
		}
	}
	if from < len(l) {
		packs = append(packs, l[from:])
	}
	return packs
}

// held is what the pages of a segment hold, made in steps as the document tells them.
func held(l []api.Entry) [][]byte {
	var rows [][]byte
	var index []api.Entry
	data := packed(l)
	for _, p := range data {
		rows = append(rows, coded(p))
		index = append(index, p[0])
	}
	indexes := packed(index)
	for _, p := range indexes {
		rows = append(rows, coded(p))
	}
	return append(rows, bytesOf(len(l), len(data), len(indexes)))
}

func disk(t *testing.T) *files.Disk {
	t.Helper()
	d, errno := files.New(api.MaxSectors)
	if errno != api.OK {
		t.Fatal(errno)
	}
	return d
}

// written is a disk with a segment.
func written(t *testing.T, base int, l []api.Entry) *files.Disk {
	t.Helper()
	d := disk(t)
	write(t, d, base, l)
	return d
}

func write(t *testing.T, d *files.Disk, base int, l []api.Entry) {
	t.Helper()
	if errno := segment.Write(d, name, base, l); errno != api.OK {
		t.Fatal("Write", base, len(l), errno)
	}
}

func open(t *testing.T, d *files.Disk, base int) *segment.Segment {
	t.Helper()
	s, errno := segment.Open(d, name, base)
	if errno != api.OK {
		t.Fatal("Open", base, errno)
	}
	return s
}

// laid is a disk with a file of pages that hold just that, of the tags from base on.
func laid(t *testing.T, base int, rows ...[]byte) *files.Disk {
	t.Helper()
	d := disk(t)
	lay(t, d, base, rows...)
	return d
}

func lay(t *testing.T, d *files.Disk, base int, rows ...[]byte) {
	t.Helper()
	d.Create(name)
	for i, b := range rows {
		p, errno := page.Put(base+i, b)
		if errno != api.OK {
			t.Fatal(i, errno)
		}
		d.Append(name, p)
	}
}

// told asks for an error, or for none.
func told(t *testing.T, errno, want api.Errno, what any) {
	t.Helper()
	if errno != want {
		t.Errorf("%v: %d, want %d", what, errno, want)
	}
}

// sectors is a file, sector by sector.
func sectors(t *testing.T, d *files.Disk) [][]byte {
	t.Helper()
	n, errno := d.Size(name)
	var l [][]byte
	for i := range n {
		s, wrong := d.Read(name, i)
		errno = max(errno, wrong)
		l = append(l, s)
	}
	if errno != api.OK {
		t.Fatal(errno)
	}
	return l
}

// notOpened asks that Open refuses.
func notOpened(t *testing.T, d *files.Disk, base int, want api.Errno, what any) {
	t.Helper()
	if s, errno := segment.Open(d, name, base); s != nil || errno != want {
		t.Errorf("%v: Open tells %d, want %d", what, errno, want)
	}
}

// P8.1: the pages of a segment, one by one, and that they are synced; P8.4: what was written is opened, and is All.
func TestWriteOpen(t *testing.T) {
	for k, l := range lists() {
		base := []int{1, 2, 1 << 40, maxBase}[k%4]
		d := written(t, base, l)
		if len(d.Pending()) > 0 {
			t.Fatal(k, "not synced")
		}
		d.Crash(nil)
		rows := held(l)
		there := sectors(t, d)
		if len(there) != len(rows) {
			t.Fatal(k, len(there), len(rows))
		}
		for i, s := range there {
			if want, _ := page.Put(base+i, rows[i]); !bytes.Equal(s, want) {
				t.Fatalf("list %d, sector %d: %v, want %v", k, i, s, want)
			}
		}
		isSegment(t, open(t, d, base), l)
	}
}

// isSegment asks all of a segment that is whole.
func isSegment(t *testing.T, s *segment.Segment, l []api.Entry) {
	t.Helper()
	packs := packed(l)
	if s.Name() != name || s.Count() != len(l) || s.Pages() != len(packs) {
		t.Fatal(s.Name(), s.Count(), s.Pages(), len(l), len(packs))
	}
	for i, p := range packs {
		if e, is := s.First(i); e != p[0] || !is {
			t.Fatal(i, e, is)
		}
		if x, errno := s.Page(i); errno != api.OK || !slices.Equal(x, p) {
			t.Fatal(i, x, errno)
		}
	}
	if x, errno := s.All(); errno != api.OK || !slices.Equal(x, l) {
		t.Fatal(len(x), errno)
	}
	if errno := s.Verify(); errno != api.OK {
		t.Fatal(errno)
	}
}

// P8.1, example 1: a segment without entries is one page.
func TestExample(t *testing.T) {
	there := sectors(t, written(t, 7, nil))
	want, _ := page.Put(7, []byte{0, 0, 0})
	if len(there) != 1 || !bytes.Equal(there[0], want) {
		t.Error(there)
	}
	there = sectors(t, written(t, 7, plain(11)))
	want, _ = page.Put(10, []byte{11, 2, 1})
	if len(there) != 4 || !bytes.Equal(there[3], want) {
		t.Error(there)
	}
}

// P8.1: what Write refuses ahead of any deed, and in which order.
func TestWriteRefuses(t *testing.T) {
	good := plain(3)
	turned := []api.Entry{good[1], good[0]}
	wrongRec := api.Entry{Rec: api.Rec{Val: api.MaxNum + 1}}
	over := plain(api.MaxEntries + 1)
	for _, c := range []struct {
		what string
		name string
		l    []api.Entry
		want api.Errno
	}{
		{"a moment", name, slices.Concat(good, []api.Entry{odd}), api.ErrMoment},
		{"a record", name, []api.Entry{wrongRec}, api.ErrRec},
		{"the first one", name, []api.Entry{wrongRec, odd}, api.ErrRec},
		{"one ahead of too many", name, slices.Concat(over, []api.Entry{odd}), api.ErrMoment},
		{"one ahead of the order", "", slices.Concat(turned, []api.Entry{odd}), api.ErrMoment},
		{"too many", name, over, api.ErrLong},
		{"too many ahead of the order", "", slices.Concat(over, good), api.ErrLong},
		{"the order", name, turned, api.ErrArg},
		{"the order at the end", name, append(plain(50), good[0]), api.ErrArg},
		{"no name", "", good, api.ErrArg},
		{"a long name", "a name of so many letters", good, api.ErrArg},
		{"twice", "other", good, api.ErrTwice},
		{"the order ahead of twice", "other", turned, api.ErrArg},
	} {
		d := disk(t)
		d.Create("other")
		d.Stop(1000)
		told(t, segment.Write(d, c.name, 1, c.l), c.want, c.what)
		for _, base := range badBases {
			told(t, segment.Write(d, c.name, base, c.l), api.ErrArg, base)
		}
		if l := d.List(); len(l) != 1 || l[0].Sectors != 0 {
			t.Error(c.what, l)
		}
	}
	told(t, segment.Write(nil, name, 1, good), api.ErrClosed, "no disk")
	told(t, segment.Write(nil, name, 1, turned), api.ErrArg, "no disk, no order")
	told(t, segment.Write(nil, name, 0, nil), api.ErrArg, "no disk, no base")
	full := disk(t)
	for i := range api.MaxFiles {
		full.Create(strconv.Itoa(i))
	}
	told(t, segment.Write(full, name, 1, good), api.ErrFull, "too many files")
}

// P8.1: the disk has room for some of the pages; those stay, and are not synced.
func TestWriteNoRoom(t *testing.T) {
	l := plain(25) // 3 pages, their index, and the last page
	for room := range 7 {
		d, _ := files.New(room)
		want := api.ErrFull
		if room >= 5 {
			want = api.OK
		}
		told(t, segment.Write(d, name, 1, l), want, room)
		n, errno := d.Size(name)
		if n != min(room, 5) || errno != api.OK {
			t.Error(room, n, errno)
		}
		if want != api.OK && len(d.Pending()) != room {
			t.Error(room, d.Pending())
		}
	}
}

// P8.1: the power goes at each of the deeds: Create, five times Append, Sync.
func TestWriteStops(t *testing.T) {
	l := plain(25)
	for n := range 9 {
		d := disk(t)
		d.Stop(n)
		want := api.ErrOff
		if n >= 7 {
			want = api.OK
		}
		told(t, segment.Write(d, name, 1, l), want, n)
		pending := max(n-1, 0)
		if n >= 7 {
			pending = 0
		}
		if d.Off() != (n < 7) || len(d.Pending()) != pending {
			t.Error(n, d.Off(), d.Pending())
		}
		d.Crash(nil)
		switch {
		case n == 0:
			notOpened(t, d, 1, api.ErrNone, n)
		case n < 7:
			notOpened(t, d, 1, api.ErrRot, n)
		default:
			isSegment(t, open(t, d, 1), l)
		}
	}
	d := disk(t)
	d.Stop(6)
	segment.Write(d, name, 1, l)
	d.Crash([]int{64, 64, 64, 64, 64})
	isSegment(t, open(t, d, 1), l)
	d.Stop(0)
	d.Create("x")
	told(t, segment.Write(d, "y", 1, l), api.ErrOff, "off")
	told(t, segment.Write(d, name, 1, l), api.ErrOff, "off ahead of twice")
}

// P8.2: what Open refuses ahead of looking at pages.
func TestOpenRefuses(t *testing.T) {
	d := written(t, 1, plain(25))
	for _, base := range badBases {
		notOpened(t, d, base, api.ErrArg, base)
		notOpened(t, nil, base, api.ErrArg, base)
		notOpened(t, disk(t), base, api.ErrArg, base)
	}
	notOpened(t, nil, 1, api.ErrClosed, "no disk")
	notOpened(t, disk(t), 1, api.ErrNone, "no file")
	for _, base := range []int{2, 3, 5, 1 << 20, maxBase} {
		notOpened(t, d, base, api.ErrRot, base)
	}
	d.Stop(0)
	d.Create("x")
	notOpened(t, d, 1, api.ErrOff, "off")
	notOpened(t, d, 2, api.ErrOff, "off, and another base")
	if s, errno := segment.Open(d, "x", 1); s != nil || errno != api.ErrNone {
		t.Error(errno)
	}
	notOpened(t, laid(t, 1), 1, api.ErrRot, "no sectors")
}

// swapped is rows of which one is another one.
func swapped(rows [][]byte, i int, b []byte) [][]byte {
	rows = slices.Clone(rows)
	rows[i] = b
	return rows
}

// P8.2: files that Open takes for no segment: their last page, or their index, is none that could be.
func TestOpenRot(t *testing.T) {
	l := plain(250) // 25 pages, 3 of the index, the last page
	rows := held(l)
	if len(rows) != 29 {
		t.Fatal(len(rows))
	}
	var index []api.Entry
	for _, p := range packed(l) {
		index = append(index, p[0])
	}
	last := len(rows) - 1
	with := func(l []api.Entry) [][]byte { // of an index of these
		all := slices.Clone(rows[:25])
		packs := packed(l)
		for _, p := range packs {
			all = append(all, coded(p))
		}
		return append(all, bytesOf(250, 25, len(packs)))
	}
	unordered := slices.Clone(index)
	unordered[3], unordered[4] = unordered[4], unordered[3]
	for what, x := range map[string][][]byte{
		"no last page":           rows[:last],
		"data alone":             rows[:3],
		"a page behind":          append(slices.Clone(rows), rows[last]),
		"a data page too few":    rows[1:],
		"nothing held":           swapped(rows, last, nil),
		"two numbers":            swapped(rows, last, bytesOf(250, 25)),
		"four numbers":           swapped(rows, last, bytesOf(250, 25, 3, 0)),
		"more bytes than needed": swapped(rows, last, []byte{240, 10, 248, 0, 25, 3}),
		"half a number":          swapped(rows, last, []byte{240, 10, 25, 240}),
		"no number":              swapped(rows, last, []byte{240, 10, 25, 255}),
		"one data page more":     swapped(rows, last, bytesOf(250, 26, 3)),
		"one data page less":     swapped(rows, last, bytesOf(250, 24, 3)),
		"one index page more":    swapped(rows, last, bytesOf(250, 25, 4)),
		"one index page less":    swapped(rows, last, bytesOf(250, 25, 2)),
		"more data, less index":  swapped(rows, last, bytesOf(250, 26, 2)),
		"less data, more index":  swapped(rows, last, bytesOf(250, 24, 4)),
		"all data":               swapped(rows, last, bytesOf(250, 28, 0)),
		"all index":              swapped(rows, last, bytesOf(250, 0, 28)),
		"great numbers":          swapped(rows, last, bytesOf(250, math.MaxInt, 1)),
		"great numbers, both":    swapped(rows, last, bytesOf(250, math.MaxInt, math.MaxInt)),
		"a great index":          swapped(rows, last, bytesOf(250, 1, math.MaxInt)),
		"an index of one less":   with(index[:24]),
		"an index of one more":   with(append(slices.Clone(index), index[24])),
		"an index without order": with(unordered),
		"an empty index page":    swapped(rows, 26, nil),
		"half an entry":          swapped(rows, 27, rows[27][:19]),
		"an entry less":          swapped(rows, 27, rows[27][:16]),
		"an entry more":          swapped(rows, 27, slices.Concat(rows[27], coded(of(2, 0, 0, 0)))),
		"no entries":             swapped(rows, 26, []byte{1, 2, 3, 255}),
		"a moment too great":     swapped(rows, 27, slices.Concat(rows[27][:16], bytesOf(api.MaxEpoch, 0, 0, 0))),
		"a pack not full":        swapped(swapped(rows, 26, rows[26][:36]), 27, slices.Concat(rows[26][36:], rows[27])),
		"the first not full":     slices.Concat(rows[:25], [][]byte{coded(index[:9]), coded(index[9:19]), coded(index[19:]), rows[last]}),
	} {
		notOpened(t, laid(t, 5, x...), 5, api.ErrRot, what)
		d := written(t, 5, l)
		s := open(t, d, 5)
		d.Delete(name)
		lay(t, d, 5, x...)
		told(t, s.Verify(), api.ErrRot, what)
	}
	for _, x := range [][][]byte{{bytesOf(0, 0, 1)}, {nil}, {bytesOf(0, 1, 0)}, {nil, bytesOf(0, 0, 1)}, {nil, bytesOf(0, 1, 0)}, {nil, nil, bytesOf(1, 1, 1)}, {coded(plain(1)), nil, bytesOf(1, 1, 1)}} {
		notOpened(t, laid(t, 5, x...), 5, api.ErrRot, x)
	}
}

// P8.2, P8.3: what Open lets pass: any number of entries, an index and data that do not fit; reading and Verify tell.
func TestOpenLetsPass(t *testing.T) {
	l := plain(250)
	rows := held(l)
	for _, count := range []int{0, 1, 249, 251, api.MaxEntries + 1, math.MaxInt} {
		s := open(t, laid(t, 5, swapped(rows, 28, bytesOf(count, 25, 3))...), 5)
		if s.Count() != count || s.Pages() != 25 {
			t.Error(count, s.Count(), s.Pages())
		}
		if x, errno := s.Page(24); errno != api.OK || !slices.Equal(x, l[240:]) {
			t.Error(x, errno)
		}
		broken(t, s, count)
		s = open(t, laid(t, 5, bytesOf(max(count, 1), 0, 0)), 5)
		if s.Count() != max(count, 1) || s.Pages() != 0 {
			t.Error(count, s.Count(), s.Pages())
		}
		broken(t, s, count)
	}
	for what, b := range map[string][]byte{
		"nothing":            nil,
		"half an entry":      rows[7][:3],
		"no entries":         {1, 2, 3, 255},
		"another first one":  rows[8],
		"one ahead of it":    slices.Concat(coded(of(0, 0, 0, 0)), rows[7][:36]),
		"the first one gone": rows[7][4:],
		"no order":           slices.Concat(rows[7][:4], rows[7][8:12], rows[7][4:8]),
		"the first one last": slices.Concat(rows[7][4:], rows[7][:4]),
	} {
		s := open(t, laid(t, 5, swapped(rows, 7, b)...), 5)
		for i := range s.Pages() {
			x, errno := s.Page(i)
			if i == 7 && (x != nil || errno != api.ErrRot) || i != 7 && (errno != api.OK || !slices.Equal(x, l[10*i:10*i+10])) {
				t.Error(what, i, x, errno)
			}
		}
		broken(t, s, what)
	}
}

// broken asks that a segment's entries are not told, and that it is not verified.
func broken(t *testing.T, s *segment.Segment, what any) {
	t.Helper()
	x, errno := s.All()
	if x != nil || errno != api.ErrRot {
		t.Errorf("%v: All tells %v, %d", what, x, errno)
	}
	told(t, s.Verify(), api.ErrRot, what)
}

// P8.3: pages that may be read each alone, but are not those of a segment.
func TestPagesThatDoNotFit(t *testing.T) {
	l := plain(30)
	rows := held(l)
	// The second page goes on beyond the first one of the third page.
	s := open(t, laid(t, 5, swapped(rows, 1, slices.Concat(rows[1][:36], coded(of(1, 0, 0, 99))))...), 5)
	if x, errno := s.Page(1); errno != api.OK || len(x) != 10 {
		t.Error(x, errno)
	}
	broken(t, s, "no order from page to page")
	// A page that is not full is read, and All is right, but it is no segment's.
	short := slices.Concat(l[:15], l[20:])
	s = open(t, laid(t, 5, rows[0], rows[1][:20], rows[2], rows[3], bytesOf(25, 3, 1)), 5)
	if x, errno := s.Page(1); errno != api.OK || !slices.Equal(x, l[10:15]) {
		t.Error(x, errno)
	}
	if x, errno := s.All(); errno != api.OK || !slices.Equal(x, short) {
		t.Error(x, errno)
	}
	told(t, s.Verify(), api.ErrRot, "a page that is not full")
	// The same entries, told as one more.
	broken(t, open(t, laid(t, 5, rows[0], rows[1][:20], rows[2], rows[3], rows[4]), 5), "fewer entries than are told")
}

// P8.3: more entries than a segment has are no segment, though they are read.
func TestMoreThanASegmentHas(t *testing.T) {
	l := slices.Repeat(of(1, 2, 3, 4), api.MaxEntries+1)
	s := open(t, laid(t, 5, held(l)...), 5)
	if x, errno := s.All(); errno != api.OK || !slices.Equal(x, l) || s.Count() != len(l) {
		t.Error(len(x), errno)
	}
	told(t, s.Verify(), api.ErrRot, "too many")
}

// P8.2: First and Find, also of entries that may not be.
func TestFirstFind(t *testing.T) {
	for _, l := range lists() {
		if len(l) > 500 {
			continue
		}
		s := open(t, written(t, 3, l), 3)
		packs := packed(l)
		for _, i := range []int{-1, math.MinInt, len(packs), len(packs) + 1, math.MaxInt} {
			if e, is := s.First(i); e != (api.Entry{}) || is {
				t.Error(i, e, is)
			}
		}
		probes := slices.Concat(l, of(-1, 0, 0, 0, 0, 0, 0, 0, 0, 0, 0, -1, 1, 0, 50, 50, 1, 2, 3, 3, 1, 2, 3, 5, math.MaxInt, 0, 0, 0, math.MinInt, 0, 0, 0))
		for _, e := range l {
			near := e
			near.Rec.Val--
			probes = append(probes, near)
			near.Rec.Val += 2
			probes = append(probes, near)
		}
		for _, e := range probes {
			want := 0
			for i, p := range packs {
				if entry.Compare(p[0], e) < 0 {
					want = i
				}
			}
			if x := s.Find(e); x != want {
				t.Errorf("%d entries, %v: %d, want %d", len(l), e, x, want)
			}
		}
	}
	s := open(t, written(t, 3, plain(30)), 3)
	for val, want := range map[int]int{0: 0, 1: 0, 10: 0, 11: 1, 20: 1, 21: 2, 29: 2, 99: 2} {
		if x := s.Find(of(1, 0, 0, val)[0]); x != want {
			t.Error(val, x)
		}
	}
}

// P8.3: what Page, All and Verify refuse of a file that is not there as it was.
func TestGone(t *testing.T) {
	l := plain(25)
	all := func(s *segment.Segment, page, all, verify api.Errno, what any) {
		t.Helper()
		for i := range 3 {
			x, errno := s.Page(i)
			if x != nil || errno != page {
				t.Error(what, i, x, errno)
			}
		}
		for _, i := range []int{-1, 3, 4, math.MinInt, math.MaxInt} {
			if x, errno := s.Page(i); x != nil || errno != api.ErrNone {
				t.Error(what, i, x, errno)
			}
		}
		if x, errno := s.All(); x != nil || errno != all {
			t.Error(what, x, errno)
		}
		told(t, s.Verify(), verify, what)
		if s.Name() != name || s.Count() != 25 || s.Pages() != 3 || s.Find(l[24]) != 2 {
			t.Error(what, s.Name(), s.Count(), s.Pages())
		}
	}
	d := written(t, 5, l)
	s := open(t, d, 5)
	d.Stop(0)
	d.Create("x")
	all(s, api.ErrOff, api.ErrOff, api.ErrOff, "off")
	d.Crash(nil)
	isSegment(t, s, l)
	d.Delete(name)
	all(s, api.ErrNone, api.ErrNone, api.ErrNone, "gone")
	d.Stop(0)
	d.Create("x")
	all(s, api.ErrOff, api.ErrOff, api.ErrOff, "gone and off")
	d.Crash(nil)
	d.Create(name)
	all(s, api.ErrNone, api.ErrNone, api.ErrRot, "without sectors")
	d.Append(name, make([]byte, 64))
	if x, errno := s.Page(0); x != nil || errno != api.ErrRot {
		t.Error(x, errno)
	}
	if x, errno := s.Page(1); x != nil || errno != api.ErrNone {
		t.Error(x, errno)
	}
	d.Delete(name)
	write(t, d, 6, l)
	all(s, api.ErrRot, api.ErrRot, api.ErrRot, "of another base")
	d.Delete(name)
	write(t, d, 5, l)
	isSegment(t, s, l)
	d.Append(name, sectors(t, d)[4])
	if x, errno := s.All(); errno != api.OK || !slices.Equal(x, l) {
		t.Error(x, errno)
	}
	told(t, s.Verify(), api.ErrRot, "a sector behind")
}

// P8.3: Verify asks what the file is now, and of that base: another segment is one, too.
func TestVerifyOther(t *testing.T) {
	d := written(t, 5, plain(25))
	s := open(t, d, 5)
	d.Delete(name)
	write(t, d, 5, some(40, 9))
	told(t, s.Verify(), api.OK, "another segment of that base")
	if x, errno := s.All(); x != nil || errno != api.ErrRot {
		t.Error(x, errno)
	}
}

// P8.3: All tells what the first page refuses that does.
func TestAllTellsTheFirst(t *testing.T) {
	l := plain(25)
	d := written(t, 5, l)
	s := open(t, d, 5)
	kept := sectors(t, d)
	d.Delete(name)
	d.Create(name)
	d.Append(name, kept[0])
	if x, errno := s.All(); x != nil || errno != api.ErrNone {
		t.Error(x, errno)
	}
	d.Write(name, 0, kept[1])
	if x, errno := s.All(); x != nil || errno != api.ErrRot {
		t.Error(x, errno)
	}
}

// P8.4: bits of one sector are turned within 32 in a row: the segment is not verified, and other data pages are read as they were.
func TestTurned(t *testing.T) {
	r := rand.New(rand.NewSource(8))
	for _, l := range [][]api.Entry{nil, plain(7), plain(25), some(60, 3), plain(150)} {
		base := 1 + r.Intn(maxBase)
		d := written(t, base, l)
		opened := open(t, d, base)
		packs := packed(l)
		size, _ := d.Size(name)
		for i := range size {
			for at := 0; at <= 480; at += 1 + r.Intn(8) {
				turn := []uint32{1, 1 << 31, 1<<31 | 1, 1<<32 - 1, r.Uint32() | 1}[r.Intn(5)]
				if errno := d.Flip(name, i, at, turn); errno != api.OK {
					t.Fatal(errno)
				}
				told(t, opened.Verify(), api.ErrRot, "opened ahead")
				again, errno := segment.Open(d, name, base)
				if (errno == api.OK) != (i < len(packs)) || errno != api.OK && (errno != api.ErrRot || again != nil) {
					t.Fatal(i, at, turn, errno)
				}
				for _, s := range []*segment.Segment{opened, again} {
					if s == nil {
						continue
					}
					told(t, s.Verify(), api.ErrRot, i)
					for j, p := range packs {
						x, errno := s.Page(j)
						if j == i && (x != nil || errno != api.ErrRot) || j != i && (errno != api.OK || !slices.Equal(x, p)) {
							t.Fatal(i, j, at, turn, x, errno)
						}
					}
				}
				d.Flip(name, i, at, turn)
			}
		}
		isSegment(t, opened, l)
	}
}

// P8.2, P8.3: of files that are somehow like segments just those are verified that Write would write.
func TestLikeSegments(t *testing.T) {
	r := rand.New(rand.NewSource(11))
	whole := 0
	for range 4000 {
		l := some(r.Intn(30), r.Int63())
		rows := held(l)
		for range r.Intn(3) {
			i := r.Intn(len(rows))
			switch r.Intn(5) {
			case 0:
				rows[i] = rows[r.Intn(len(rows))]
			case 1:
				rows = slices.Delete(rows, i, i+1)
			case 2:
				rows = slices.Insert(rows, i, coded(some(r.Intn(4), r.Int63())))
			case 3:
				b := slices.Clone(rows[i])
				if len(b) > 0 {
					b[r.Intn(len(b))] = byte(r.Intn(3))
				}
				rows[i] = b
			case 4:
				rows[len(rows)-1] = bytesOf(r.Intn(30), r.Intn(6), r.Intn(3))
			}
			if len(rows) == 0 {
				rows = [][]byte{nil}
			}
		}
		s, errno := segment.Open(laid(t, 5, rows...), name, 5)
		if errno != api.OK {
			if s != nil || errno != api.ErrRot || likeSegment(rows) {
				t.Fatalf("%v: %d", rows, errno)
			}
			continue
		}
		verified := s.Verify()
		if (verified == api.OK) != likeSegment(rows) {
			t.Fatalf("%v: %d", rows, verified)
		}
		if verified == api.OK {
			whole++
		}
	}
	if whole < 500 {
		t.Error(whole)
	}
}

// likeSegment tells whether the pages are just those of some entries in order.
func likeSegment(rows [][]byte) bool {
	for data := range len(rows) {
		var l []api.Entry
		for _, b := range rows[:data] {
			some, errno := entry.Unpack(b)
			if errno != api.OK {
				return false
			}
			l = append(l, some...)
		}
		if slices.IsSortedFunc(l, entry.Compare) && slices.EqualFunc(held(l), rows, bytes.Equal) {
			return true
		}
	}
	return false
}

// P8.2, P8.3: of a nil Segment.
func TestNil(t *testing.T) {
	for _, s := range []*segment.Segment{nil, {}} {
		if s.Name() != "" || s.Count() != 0 || s.Pages() != 0 || s.Find(odd) != 0 || s.Verify() != api.ErrClosed {
			t.Error("nil")
		}
		for _, i := range []int{-1, 0, 1} {
			if e, is := s.First(i); e != (api.Entry{}) || is {
				t.Error(e, is)
			}
			if l, errno := s.Page(i); l != nil || errno != api.ErrClosed {
				t.Error(l, errno)
			}
		}
		if l, errno := s.All(); l != nil || errno != api.ErrClosed {
			t.Error(l, errno)
		}
	}
}

// R3: what is handed in is not changed and not kept, and answers share nothing with what a segment keeps.
func TestSharesNothing(t *testing.T) {
	l := some(60, 4)
	room := slices.Clone(l)
	d := written(t, 5, room[:50])
	if !slices.Equal(room, l) {
		t.Error("Write changed what was handed in")
	}
	clear(room)
	s := open(t, d, 5)
	isSegment(t, s, l[:50])
	for range 2 {
		for i := range s.Pages() {
			x, _ := s.Page(i)
			clear(x[:cap(x)])
		}
		x, _ := s.All()
		clear(x[:cap(x)])
		isSegment(t, s, l[:50])
	}
}

// R4: two segments of one file do not know of each other.
func TestTwoSegments(t *testing.T) {
	d := written(t, 5, plain(25))
	told(t, segment.Write(d, "other", 5, some(40, 9)), api.OK, "other")
	a, b := open(t, d, 5), open(t, d, 5)
	o, errno := segment.Open(d, "other", 5)
	if errno != api.OK || o.Name() != "other" || o.Count() != 40 {
		t.Fatal(errno)
	}
	isSegment(t, a, plain(25))
	isSegment(t, b, plain(25))
	if x, errno := o.All(); errno != api.OK || !slices.Equal(x, some(40, 9)) || o.Verify() != api.OK {
		t.Error(x, errno)
	}
}
