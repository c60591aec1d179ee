package files_test

import (
	"bytes"
	"math/rand"
	"slices"
	"strconv"
	"strings"
	"testing"

	"oxbow/api"
	"oxbow/files"
)

func disk(t *testing.T, limit int) *files.Disk {
	t.Helper()
	d, errno := files.New(limit)
	if errno != api.OK || d == nil {
		t.Fatal("New", limit, d, errno)
	}
	return d
}

// full is a sector of one byte.
func full(x byte) []byte {
	return bytes.Repeat([]byte{x}, api.Sector)
}

// torn is a sector whose first bytes are x, and the others y.
func torn(x byte, n int, y byte) []byte {
	return append(bytes.Repeat([]byte{x}, n), bytes.Repeat([]byte{y}, api.Sector-n)...)
}

func want(t *testing.T, what string, got, want api.Errno) {
	t.Helper()
	if got != want {
		t.Errorf("%s: %d, not %d", what, got, want)
	}
}

func ok(t *testing.T, got ...api.Errno) {
	t.Helper()
	for i, errno := range got {
		if errno != api.OK {
			t.Errorf("deed %d: %d", i, errno)
		}
	}
}

func reads(t *testing.T, d *files.Disk, name string, rows ...[]byte) {
	t.Helper()
	if n, errno := d.Size(name); n != len(rows) || errno != api.OK {
		t.Errorf("%s has %d sectors, %d, not %d", name, n, errno, len(rows))
	}
	for i, row := range rows {
		if b, errno := d.Read(name, i); errno != api.OK || !bytes.Equal(b, row) {
			t.Errorf("%s %d: %v %d, not %v", name, i, b, errno, row)
		}
	}
	if b, errno := d.Read(name, len(rows)); b != nil || errno != api.ErrNone {
		t.Errorf("%s behind its end: %v %d", name, b, errno)
	}
}

// P5.1: New and its limit.
func TestNew(t *testing.T) {
	for _, limit := range []int{-1, -1 << 63, api.MaxSectors + 1, 1<<63 - 1} {
		if d, errno := files.New(limit); d != nil || errno != api.ErrArg {
			t.Error(limit, d, errno)
		}
	}
	for _, limit := range []int{0, 1, api.MaxSectors} {
		d := disk(t, limit)
		if d.Used() != 0 || len(d.List()) != 0 || len(d.Pending()) != 0 || d.Off() {
			t.Error(limit, "is not empty, or off")
		}
	}
}

// P5.1: Create, its names, and how many files there are.
func TestCreate(t *testing.T) {
	d := disk(t, 2)
	for _, name := range []string{"", strings.Repeat("x", api.MaxName+1), strings.Repeat("é", 13)} {
		want(t, name, d.Create(name), api.ErrArg)
	}
	for _, name := range []string{"a", strings.Repeat("x", api.MaxName), "\x00", "\xff/.."} {
		want(t, name, d.Create(name), api.OK)
		want(t, name, d.Create(name), api.ErrTwice)
	}
	if len(d.List()) != 4 {
		t.Error(d.List())
	}
	for i := 4; i < api.MaxFiles; i++ {
		want(t, "more", d.Create("f"+strconv.Itoa(i)), api.OK)
	}
	want(t, "one too many", d.Create("more"), api.ErrFull)
	want(t, "there is one already, ahead of that", d.Create("a"), api.ErrTwice)
	want(t, "no name, ahead of that", d.Create(""), api.ErrArg)
	ok(t, d.Delete("a"), d.Create("more"))
	if len(d.List()) != api.MaxFiles {
		t.Error(len(d.List()))
	}
}

// P5.1: Append and Write, and the limit of all sectors together.
func TestAppendWrite(t *testing.T) {
	d := disk(t, 3)
	ok(t, d.Create("a"), d.Create("b"))
	for _, n := range []int{0, 1, 63, 65, 128} {
		want(t, "length", d.Append("a", make([]byte, n)), api.ErrArg)
		want(t, "length", d.Append("none", make([]byte, n)), api.ErrArg)
		want(t, "length", d.Write("a", 0, make([]byte, n)), api.ErrArg)
		want(t, "length", d.Write("none", 0, make([]byte, n)), api.ErrArg)
	}
	want(t, "no file", d.Append("none", full(1)), api.ErrNone)
	want(t, "no file", d.Append("", full(1)), api.ErrNone)
	want(t, "no file", d.Write("none", 0, full(1)), api.ErrNone)
	want(t, "no sector", d.Write("a", 0, full(1)), api.ErrNone)
	ok(t, d.Append("a", full(1)), d.Append("b", full(2)), d.Append("a", full(3)), d.Write("a", 0, full(4)))
	want(t, "full", d.Append("b", full(5)), api.ErrFull)
	want(t, "full, but no file", d.Append("none", full(5)), api.ErrNone)
	for _, i := range []int{-1, 2, 1<<63 - 1, -1 << 63} {
		want(t, "no sector", d.Write("a", i, full(5)), api.ErrNone)
	}
	reads(t, d, "a", full(4), full(3))
	reads(t, d, "b", full(2))
	if d.Used() != 3 {
		t.Error(d.Used())
	}
	ok(t, d.Delete("a"), d.Append("b", full(6)), d.Append("b", full(7)))
	want(t, "full", d.Append("b", full(8)), api.ErrFull)
	reads(t, d, "b", full(2), full(6), full(7))
}

// P5.1: a disk without room has files, but no sectors.
func TestNoRoom(t *testing.T) {
	d := disk(t, 0)
	ok(t, d.Create("a"))
	want(t, "full", d.Append("a", full(1)), api.ErrFull)
	reads(t, d, "a")
}

// P5.1: Sync, Rename, Delete and what they refuse.
func TestSyncRenameDelete(t *testing.T) {
	d := disk(t, 9)
	ok(t, d.Create("a"), d.Create("b"), d.Create("c"), d.Append("a", full(1)), d.Append("b", full(2)), d.Append("c", full(3)))
	want(t, "no file", d.Sync("x"), api.ErrNone)
	want(t, "no file", d.Delete("x"), api.ErrNone)
	want(t, "no file", d.Rename("x", "a"), api.ErrNone)
	want(t, "no file", d.Rename("x", "x"), api.ErrNone)
	want(t, "no name", d.Rename("x", ""), api.ErrArg)
	want(t, "no name", d.Rename("a", strings.Repeat("x", api.MaxName+1)), api.ErrArg)
	ok(t, d.Rename("a", "a"), d.Rename("a", "b"), d.Rename("c", strings.Repeat("x", api.MaxName)))
	if l := d.List(); !slices.Equal(l, []api.File{{Name: "b", Sectors: 1}, {Name: strings.Repeat("x", api.MaxName), Sectors: 1}}) {
		t.Error(l)
	}
	reads(t, d, "b", full(1))
	if p := d.Pending(); !slices.Equal(p, []api.Pend{{Name: "b"}, {Name: strings.Repeat("x", api.MaxName)}}) {
		t.Error(p)
	}
	ok(t, d.Delete("b"))
	if d.Used() != 1 || len(d.Pending()) != 1 {
		t.Error(d.Used(), d.Pending())
	}
}

// P5.1: while the power is off no deed is done; ErrArg comes ahead of it, all else behind.
func TestOff(t *testing.T) {
	d := disk(t, 1)
	ok(t, d.Create("a"), d.Append("a", full(1)), d.Stop(0))
	if d.Off() {
		t.Error("off ahead of the deed")
	}
	want(t, "the deed at which it goes", d.Sync("a"), api.ErrOff)
	if !d.Off() {
		t.Error("not off")
	}
	for what, errno := range map[string]api.Errno{
		"Create": d.Create("b"), "Create twice": d.Create("a"), "Append": d.Append("a", full(2)), "Append none": d.Append("x", full(2)),
		"Write": d.Write("a", 0, full(2)), "Write none": d.Write("a", 5, full(2)), "Sync": d.Sync("a"), "Sync none": d.Sync("x"),
		"Rename": d.Rename("a", "b"), "Rename same": d.Rename("a", "a"), "Rename none": d.Rename("x", "b"),
		"Delete": d.Delete("a"), "Delete none": d.Delete("x"),
	} {
		want(t, what, errno, api.ErrOff)
	}
	want(t, "Create", d.Create(""), api.ErrArg)
	want(t, "Append", d.Append("a", nil), api.ErrArg)
	want(t, "Write", d.Write("a", 0, nil), api.ErrArg)
	want(t, "Rename", d.Rename("a", ""), api.ErrArg)
	for _, i := range []int{0, 1} {
		if b, errno := d.Read("a", i); b != nil || errno != api.ErrOff {
			t.Error(b, errno)
		}
	}
	if b, errno := d.Read("x", 0); b != nil || errno != api.ErrOff {
		t.Error(b, errno)
	}
	// P5.2: what needs no power is told.
	if n, errno := d.Size("a"); n != 1 || errno != api.OK {
		t.Error(n, errno)
	}
	if n, errno := d.Size("x"); n != 0 || errno != api.ErrNone {
		t.Error(n, errno)
	}
	if len(d.List()) != 1 || d.Used() != 1 || len(d.Pending()) != 1 {
		t.Error("something was done while the power was off")
	}
	d.Crash(nil)
	if d.Off() {
		t.Error("off behind a crash")
	}
	reads(t, d, "a")
}

// P5.2: files go by names, what is pending by when it was written.
func TestListPending(t *testing.T) {
	d := disk(t, 9)
	ok(t, d.Create("b"), d.Create("a"), d.Create("ab"), d.Create("B"), d.Append("b", full(1)), d.Append("a", full(2)), d.Append("b", full(3)), d.Write("b", 0, full(4)))
	if l := d.List(); !slices.Equal(l, []api.File{{Name: "B"}, {Name: "a", Sectors: 1}, {Name: "ab"}, {Name: "b", Sectors: 2}}) {
		t.Error(l)
	}
	all := []api.Pend{{Name: "b"}, {Name: "a"}, {Name: "b", At: 1}, {Name: "b"}}
	if p := d.Pending(); !slices.Equal(p, all) {
		t.Error(p)
	}
	ok(t, d.Rename("b", "z"))
	if p := d.Pending(); !slices.Equal(p, []api.Pend{{Name: "z"}, {Name: "a"}, {Name: "z", At: 1}, {Name: "z"}}) {
		t.Error(p)
	}
	ok(t, d.Sync("z"))
	if p := d.Pending(); !slices.Equal(p, []api.Pend{{Name: "a"}}) {
		t.Error(p)
	}
	reads(t, d, "z", full(4), full(3))
	if d.Used() != 3 {
		t.Error(d.Used())
	}
}

// P5.3: the power goes at the deed that would be done behind n others; what is refused is none.
func TestStop(t *testing.T) {
	deeds := []func(d *files.Disk) api.Errno{
		func(d *files.Disk) api.Errno { return d.Create("a") },
		func(d *files.Disk) api.Errno { return d.Append("a", full(1)) },
		func(d *files.Disk) api.Errno { return d.Write("a", 0, full(2)) },
		func(d *files.Disk) api.Errno { return d.Sync("a") },
		func(d *files.Disk) api.Errno { return d.Rename("a", "a") },
		func(d *files.Disk) api.Errno { return d.Rename("a", "b") },
		func(d *files.Disk) api.Errno { return d.Delete("b") },
	}
	for n := range len(deeds) + 2 {
		d := disk(t, 1)
		ok(t, d.Stop(n))
		for i, do := range deeds {
			want(t, "no file", d.Delete("none"), either(i <= n, api.ErrNone, api.ErrOff))
			want(t, "no name", d.Create(""), api.ErrArg)
			want(t, strconv.Itoa(n)+" others, deed "+strconv.Itoa(i), do(d), either(i < n, api.OK, api.ErrOff))
			if d.Off() != (i >= n) {
				t.Error(n, i, d.Off())
			}
		}
	}
}

func either(first bool, a, b api.Errno) api.Errno {
	if first {
		return a
	}
	return b
}

// P5.3: Stop is refused below 0, holds anew when it is called again, and is forgotten in a crash.
func TestStopAgain(t *testing.T) {
	d := disk(t, 1)
	ok(t, d.Stop(1))
	want(t, "below 0", d.Stop(-1), api.ErrArg)
	want(t, "far below 0", d.Stop(-1<<63), api.ErrArg)
	ok(t, d.Create("a"))
	want(t, "the first one holds", d.Create("b"), api.ErrOff)
	ok(t, d.Stop(0))
	d.Crash(nil)
	ok(t, d.Create("b"), d.Create("c"), d.Stop(0), d.Stop(1<<63-1), d.Create("d"), d.Create("e"), d.Stop(1))
	d.Crash(nil)
	ok(t, d.Delete("a"), d.Delete("b"), d.Delete("c"), d.Delete("d"), d.Stop(0))
	want(t, "the last one holds", d.Delete("e"), api.ErrOff)
}

// P5.3: Create, Rename and Delete are never lost, nor what was synced.
func TestCrashKeepsNames(t *testing.T) {
	d := disk(t, 9)
	ok(t, d.Create("a"), d.Append("a", full(1)), d.Sync("a"), d.Append("a", full(2)), d.Create("b"), d.Append("b", full(3)), d.Create("c"), d.Create("d"))
	ok(t, d.Rename("a", "b"), d.Delete("c"), d.Rename("d", "e"))
	d.Crash([]int{64, 64})
	if l := d.List(); !slices.Equal(l, []api.File{{Name: "b", Sectors: 2}, {Name: "e"}}) {
		t.Error(l)
	}
	reads(t, d, "b", full(1), full(2))
	d = disk(t, 9)
	ok(t, d.Create("a"), d.Append("a", full(1)), d.Delete("a"), d.Create("a"), d.Append("a", full(2)))
	if p := d.Pending(); !slices.Equal(p, []api.Pend{{Name: "a"}}) {
		t.Error(p)
	}
	d.Crash([]int{3})
	reads(t, d, "a", torn(2, 3, 0))
}

// P5.3: the first bytes of a write are kept, over what was kept ahead of it.
func TestCrashKeeps(t *testing.T) {
	for _, c := range []struct {
		keep []int
		want [][]byte
	}{
		{nil, [][]byte{full(1)}},
		{[]int{}, [][]byte{full(1)}},
		{[]int{0, 0, 0, 0}, [][]byte{full(1)}},
		{[]int{-1, -64, -1 << 63}, [][]byte{full(1)}},
		{[]int{64}, [][]byte{full(2)}},
		{[]int{65}, [][]byte{full(2)}},
		{[]int{1<<63 - 1}, [][]byte{full(2)}},
		{[]int{1}, [][]byte{torn(2, 1, 1)}},
		{[]int{63}, [][]byte{torn(2, 63, 1)}},
		{[]int{0, 10}, [][]byte{full(1), torn(3, 10, 0)}},
		{[]int{0, 0, 10}, [][]byte{full(1), full(0), torn(4, 10, 0)}},
		{[]int{0, 0, 0, 10}, [][]byte{full(1), torn(5, 10, 0)}},
		{[]int{0, 20, 0, 10}, [][]byte{full(1), append(full(5)[:10:10], torn(3, 10, 0)[:54]...)}},
		{[]int{0, 20, 1, 30, 64, 64}, [][]byte{full(1), torn(5, 30, 0), torn(4, 1, 0)}},
		{[]int{64, 64, 64, 64}, [][]byte{full(2), full(5), full(4)}},
	} {
		d := disk(t, 9)
		ok(t, d.Create("a"), d.Append("a", full(1)), d.Sync("a"))
		ok(t, d.Write("a", 0, full(2)), d.Append("a", full(3)), d.Append("a", full(4)), d.Write("a", 1, full(5)))
		keep := slices.Clone(c.keep)
		d.Crash(c.keep)
		if !slices.Equal(keep, c.keep) {
			t.Error("keep was changed")
		}
		reads(t, d, "a", c.want...)
		if len(d.Pending()) != 0 || d.Used() != len(c.want) {
			t.Error(c.keep, d.Pending(), d.Used())
		}
		d.Crash([]int{0, 0, 0, 0})
		reads(t, d, "a", c.want...)
	}
}

// Example 1.
func TestExample(t *testing.T) {
	d := disk(t, 9)
	ok(t, d.Create("a"), d.Append("a", full(7)), d.Append("a", full(8)))
	d.Crash([]int{0, 1})
	reads(t, d, "a", full(0), torn(8, 1, 0))
}

// P5.3: each bit that Flip turns, and no other one.
func TestFlipBits(t *testing.T) {
	d := disk(t, 1)
	ok(t, d.Create("a"), d.Append("a", full(0x5a)))
	bits := func() []byte {
		b, _ := d.Read("a", 0)
		var l []byte
		for k := range 8 * api.Sector {
			l = append(l, b[k/8]>>(k%8)&1)
		}
		return l
	}
	for _, turn := range []uint32{0, 1, 1 << 31, 0x80000001, 0xdeadbeef, 1<<32 - 1} {
		for at := 0; at <= 480; at++ {
			expect := bits()
			for j := range 32 {
				expect[min(at+j, 511)] ^= byte(turn >> j & 1)
			}
			ok(t, d.Flip("a", 0, at, turn))
			if !slices.Equal(bits(), expect) {
				t.Fatal(at, turn)
			}
		}
	}
}

// P5.3: what Flip refuses, also while the power is off; it is no deed.
func TestFlipRefuses(t *testing.T) {
	d := disk(t, 1)
	ok(t, d.Create("a"), d.Append("a", full(1)), d.Stop(0))
	for _, i := range []int{-1, 1, 1<<63 - 1, -1 << 63} {
		want(t, "no sector", d.Flip("a", i, -1, 1), api.ErrNone)
	}
	want(t, "no file", d.Flip("b", 0, -1, 1), api.ErrNone)
	for _, at := range []int{-1, 481, 512, 1<<63 - 1, -1 << 63} {
		want(t, "no bit", d.Flip("a", 0, at, 1), api.ErrArg)
	}
	ok(t, d.Flip("a", 0, 8, 1))
	if d.Off() {
		t.Error("Flip is no deed")
	}
	reads(t, d, "a", append([]byte{1, 0}, full(1)[2:]...))
	want(t, "off", d.Sync("a"), api.ErrOff)
	ok(t, d.Flip("a", 0, 0, 1))
	want(t, "no bit", d.Flip("a", 0, 481, 1), api.ErrArg)
	d.Crash([]int{64})
	reads(t, d, "a", append([]byte{0, 0}, full(1)[2:]...))
}

// P5.3: Flip turns what was written last, what is kept, and what is pending of that sector, and nothing else.
func TestFlipEverywhere(t *testing.T) {
	for _, c := range []struct {
		keep []int
		want [][]byte
	}{
		{nil, [][]byte{torn(0xf1, 1, 1), full(2)}},
		{[]int{64}, [][]byte{torn(0xf3, 1, 3), full(2)}},
		{[]int{64, 1}, [][]byte{torn(0xf4, 1, 3), full(2)}},
		{[]int{0, 0, 64}, [][]byte{torn(0xf1, 1, 1), full(2), torn(0xf6, 1, 6)}},
		{[]int{0, 0, 0, 2}, [][]byte{torn(0xf1, 1, 1), full(2), append([]byte{0xf7, 7}, full(0)[2:]...)}},
		{[]int{0, 0, 64, 64, 64}, [][]byte{torn(0xf1, 1, 1), full(5), torn(0xf7, 1, 7)}},
	} {
		d := disk(t, 9)
		ok(t, d.Create("a"), d.Create("b"), d.Append("a", full(1)), d.Append("a", full(2)), d.Sync("a"))
		ok(t, d.Write("a", 0, full(3)), d.Write("a", 0, full(4)), d.Append("a", full(6)), d.Write("a", 2, full(7)), d.Write("a", 1, full(5)), d.Append("b", full(8)))
		ok(t, d.Flip("a", 0, 4, 15), d.Flip("a", 2, 4, 15))
		reads(t, d, "a", torn(0xf4, 1, 4), full(5), torn(0xf7, 1, 7))
		reads(t, d, "b", full(8))
		d.Crash(c.keep)
		reads(t, d, "a", c.want...)
	}
}

// P5.4: what was synced and not written since is there behind a crash; a crash with nothing pending changes nothing.
func TestSyncedStays(t *testing.T) {
	for _, keep := range [][]int{nil, {1, 2, 3}, {64, 64, 64}} {
		d := disk(t, 9)
		ok(t, d.Create("a"), d.Create("b"), d.Append("a", full(1)), d.Append("a", full(2)), d.Sync("a"), d.Append("b", full(3)), d.Write("a", 1, full(4)))
		d.Crash(keep)
		if b, errno := d.Read("a", 0); errno != api.OK || !bytes.Equal(b, full(1)) {
			t.Error(b, errno)
		}
		ok(t, d.Sync("a"), d.Sync("b"))
		ahead := told(d)
		d.Crash(keep)
		if told(d) != ahead {
			t.Error("changed without anything pending")
		}
	}
}

// P5.3: a disk that nobody made.
func TestNobodysDisk(t *testing.T) {
	for _, d := range []*files.Disk{nil, {}} {
		for what, errno := range map[string]api.Errno{
			"Create": d.Create(""), "Append": d.Append("a", nil), "Write": d.Write("a", 0, nil), "Sync": d.Sync("a"),
			"Rename": d.Rename("a", ""), "Delete": d.Delete("a"), "Stop": d.Stop(-1), "Flip": d.Flip("a", 0, -1, 1),
		} {
			want(t, what, errno, api.ErrClosed)
		}
		if b, errno := d.Read("a", 0); b != nil || errno != api.ErrClosed {
			t.Error(b, errno)
		}
		if n, errno := d.Size("a"); n != 0 || errno != api.ErrClosed {
			t.Error(n, errno)
		}
		d.Crash([]int{1})
		if len(d.List()) != 0 || len(d.Pending()) != 0 || d.Used() != 0 || !d.Off() {
			t.Error("it has something, or the power is on")
		}
	}
}

// R3: what is handed in is not kept, what is answered is new memory.
func TestSharesNothing(t *testing.T) {
	d := disk(t, 9)
	room := append(full(1), full(9)...)
	ok(t, d.Create("a"), d.Append("a", room[:64]), d.Write("a", 0, room[:64]), d.Append("a", room[:64]))
	if !bytes.Equal(room, append(full(1), full(9)...)) {
		t.Error("what was handed in was changed")
	}
	clear(room)
	reads(t, d, "a", full(1), full(1))
	b, _ := d.Read("a", 0)
	clear(b[:cap(b)])
	l := d.List()
	clear(l[:cap(l)])
	p := d.Pending()
	clear(p[:cap(p)])
	reads(t, d, "a", full(1), full(1))
	if len(d.List()) != 1 || d.List()[0].Name != "a" || len(d.Pending()) != 3 || d.Pending()[2] != (api.Pend{Name: "a", At: 1}) {
		t.Error(d.List(), d.Pending())
	}
	d.Crash([]int{64, 64, 64})
	reads(t, d, "a", full(1), full(1))
}

// told is all that a disk tells.
func told(d *files.Disk) string {
	var s strings.Builder
	for _, f := range d.List() {
		n, errno := d.Size(f.Name)
		s.WriteString(f.Name + " " + strconv.Itoa(f.Sectors) + " " + strconv.Itoa(n) + " " + strconv.Itoa(int(errno)) + "\n")
		for i := range n {
			b, errno := d.Read(f.Name, i)
			s.Write(b)
			s.WriteString(strconv.Itoa(int(errno)) + "\n")
		}
	}
	for _, p := range d.Pending() {
		s.WriteString(p.Name + " " + strconv.Itoa(p.At) + "\n")
	}
	return s.String() + strconv.Itoa(d.Used()) + strconv.FormatBool(d.Off())
}

// plain is a disk told in another way: what was kept, and all that was written since, each by its file's number.
type plain struct {
	names   map[string]int
	kept    map[[2]int][]byte
	sizes   map[int]int
	log     []plainWrite
	next    int
	limit   int
	off     bool
	stop    int
	sectors map[int]int
}

type plainWrite struct {
	id, at int
	b      []byte
}

func newPlain(limit int) *plain {
	return &plain{names: map[string]int{}, kept: map[[2]int][]byte{}, sizes: map[int]int{}, sectors: map[int]int{}, limit: limit, stop: -1}
}

func (p *plain) goes() bool {
	if p.stop == 0 {
		p.off = true
		return true
	}
	if p.stop > 0 {
		p.stop--
	}
	return false
}

func (p *plain) used() int {
	n := 0
	for _, id := range p.names {
		n += p.sectors[id]
	}
	return n
}

func (p *plain) drop(id int) {
	p.log = slices.DeleteFunc(p.log, func(w plainWrite) bool { return w.id == id })
}

func (p *plain) write(name string, at int, b []byte, more bool) api.Errno {
	id, there := p.names[name]
	switch {
	case len(b) != 64:
		return api.ErrArg
	case p.off:
		return api.ErrOff
	case !there || !more && (at < 0 || at >= p.sectors[id]):
		return api.ErrNone
	case more && p.used() >= p.limit:
		return api.ErrFull
	case p.goes():
		return api.ErrOff
	}
	if more {
		at = p.sectors[id]
		p.sectors[id]++
	}
	p.log = append(p.log, plainWrite{id, at, slices.Clone(b)})
	return api.OK
}

func (p *plain) create(name string) api.Errno {
	_, there := p.names[name]
	switch {
	case p.off:
		return api.ErrOff
	case there:
		return api.ErrTwice
	case p.goes():
		return api.ErrOff
	}
	p.next++
	p.names[name] = p.next
	return api.OK
}

func (p *plain) lay(w plainWrite, n int) {
	if n <= 0 {
		return
	}
	for ; p.sizes[w.id] <= w.at; p.sizes[w.id]++ {
		p.kept[[2]int{w.id, p.sizes[w.id]}] = make([]byte, 64)
	}
	copy(p.kept[[2]int{w.id, w.at}], w.b[:min(n, 64)])
}

// other is Sync, Delete, and Rename, if there is a name to.
func (p *plain) other(what, name, to string) api.Errno {
	id, there := p.names[name]
	switch {
	case p.off:
		return api.ErrOff
	case !there:
		return api.ErrNone
	case p.goes():
		return api.ErrOff
	}
	switch what {
	case "sync":
		for _, w := range p.log {
			if w.id == id {
				p.lay(w, 64)
			}
		}
		p.drop(id)
	case "delete":
		p.drop(id)
		delete(p.names, name)
	case "rename":
		if old, there := p.names[to]; there && old != id {
			p.drop(old)
		}
		delete(p.names, name)
		p.names[to] = id
	}
	return api.OK
}

func (p *plain) crash(keep []int) {
	for j, w := range p.log {
		if j < len(keep) {
			p.lay(w, keep[j])
		}
	}
	p.log, p.off, p.stop = nil, false, -1
	for _, id := range p.names {
		p.sectors[id] = p.sizes[id]
	}
}

func (p *plain) flip(name string, i, at int, turn uint32) api.Errno {
	id, there := p.names[name]
	if !there || i < 0 || i >= p.sectors[id] {
		return api.ErrNone
	}
	turned := func(b []byte) {
		for j := range 32 {
			if turn>>j&1 == 1 {
				b[(at+j)/8] ^= 1 << ((at + j) % 8)
			}
		}
	}
	if b := p.kept[[2]int{id, i}]; b != nil {
		turned(b)
	}
	for _, w := range p.log {
		if w.id == id && w.at == i {
			turned(w.b)
		}
	}
	return api.OK
}

func (p *plain) told() string {
	d := newPlain(p.limit)
	for id, n := range p.sizes {
		d.sizes[id] = n
	}
	for k, b := range p.kept {
		d.kept[k] = slices.Clone(b)
	}
	for _, w := range p.log {
		d.lay(w, 64)
	}
	var names []string
	byID := map[int]string{}
	for name, id := range p.names {
		names = append(names, name)
		byID[id] = name
	}
	slices.Sort(names)
	var s strings.Builder
	for _, name := range names {
		id := p.names[name]
		n := strconv.Itoa(p.sectors[id])
		s.WriteString(name + " " + n + " " + n + " 0\n")
		for i := range p.sectors[id] {
			if p.off {
				s.WriteString("50\n")
				continue
			}
			s.Write(d.kept[[2]int{id, i}])
			s.WriteString("0\n")
		}
	}
	for _, w := range p.log {
		s.WriteString(byID[w.id] + " " + strconv.Itoa(w.at) + "\n")
	}
	return s.String() + strconv.Itoa(p.used()) + strconv.FormatBool(p.off)
}

// P5.1 to P5.4: any deeds, held against the plain disk behind each of them.
func TestAgainstPlain(t *testing.T) {
	for seed := range 60 {
		r := rand.New(rand.NewSource(int64(seed)))
		limit := r.Intn(12)
		d, p := disk(t, limit), newPlain(limit)
		names := []string{"a", "b", "c", "dd"}
		for step := range 400 {
			name, to, i := names[r.Intn(4)], names[r.Intn(4)], r.Intn(5)-1
			b := full(byte(r.Intn(256)))
			var got, expect api.Errno
			switch k := r.Intn(30); {
			case k < 4:
				got, expect = d.Create(name), p.create(name)
			case k < 12:
				got, expect = d.Append(name, b), p.write(name, 0, b, true)
			case k < 18:
				got, expect = d.Write(name, i, b), p.write(name, i, b, false)
			case k < 21:
				got, expect = d.Sync(name), p.other("sync", name, "")
			case k < 23:
				got, expect = d.Rename(name, to), p.other("rename", name, to)
			case k < 24:
				got, expect = d.Delete(name), p.other("delete", name, "")
			case k < 25:
				n := r.Intn(20)
				got, p.stop = d.Stop(n), n
			case k < 27:
				at, turn := r.Intn(481), r.Uint32()
				got, expect = d.Flip(name, i, at, turn), p.flip(name, i, at, turn)
			default:
				keep := make([]int, r.Intn(8))
				for j := range keep {
					keep[j] = r.Intn(90) - 13
				}
				d.Crash(keep)
				p.crash(keep)
			}
			if got != expect || told(d) != p.told() {
				t.Fatalf("seed %d, step %d: %d, not %d\n%q\n%q", seed, step, got, expect, told(d), p.told())
			}
		}
	}
}
