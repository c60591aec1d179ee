package edit_test

import (
	"bytes"
	"math"
	"math/rand"
	"slices"
	"strconv"
	"strings"
	"testing"

	"oxbow/api"
	"oxbow/edit"
)

func round(epoch, round int, refs ...api.Ref) api.Edit {
	return api.Edit{Kind: api.EditRound, At: api.Moment{Epoch: epoch, Round: round}, Refs: refs}
}

func done(epoch int, refs ...api.Ref) api.Edit {
	return api.Edit{Kind: api.EditDone, At: api.Moment{Epoch: epoch}, Refs: refs}
}

func ref(name string, base, count int) api.Ref {
	return api.Ref{Name: name, Base: base, Count: count}
}

// refs is n refs, of names from a to z.
func refs(n int) []api.Ref {
	var l []api.Ref
	for i := range n {
		l = append(l, ref(string(rune('a'+i%26)), 1+i, i))
	}
	return l
}

var long = strings.Repeat("n", api.MaxName)

// fit is edits that may be, and the bytes that each has.
func fit() map[string]api.Edit {
	return map[string]api.Edit{
		"\x01\x00\x00\x00":                                   round(0, 0),
		"\x01\x01\x02\x00":                                   round(1, 2),
		"\x02\x00\x00\x00":                                   done(0),
		"\x02\xf0\x00\x00\x00":                               done(240),
		"\x01\xf8\xff\xff\xf8\xff\xff\x00":                   round(api.MaxEpoch-1, api.MaxRound-1),
		"\x02\xf8\xff\xff\x00\x00":                           done(api.MaxEpoch - 1),
		"\x01\x01\x02\x01\x02ab\x03\x04":                     round(1, 2, ref("ab", 3, 4)),
		"\x02\x05\x00\x02\x01b\x01\x00\x01a\xf0\x01\xf0\x00": done(5, ref("b", 1, 0), ref("a", 241, 240)),
		"\x01\x00\x01\x01\x18" + long + "\xfe\x20\x00\x00\x00\x00\x00\x00\x00\xf8\x40\x00": round(0, 1, ref(long, 1<<61, api.MaxEntries)),
		"\x02\x00\x00\x03\x01x\x01\x01\x01x\x01\x01\x03\x00\xff\n\x02\x00":                 done(0, ref("x", 1, 1), ref("x", 1, 1), ref("\x00\xff\n", 2, 0)),
	}
}

// unfit is edits that may not be, each by one thing.
func unfit() []api.Edit {
	l := []api.Edit{
		{},
		{Kind: 3},
		{Kind: -1},
		{Kind: math.MaxInt},
		{Kind: math.MinInt},
		round(-1, 0),
		round(0, -1),
		round(api.MaxEpoch, 0),
		round(0, api.MaxRound),
		round(math.MinInt, math.MaxInt),
		done(-1),
		done(api.MaxEpoch),
		{Kind: api.EditDone, At: api.Moment{Epoch: 0, Round: 1}},
		{Kind: api.EditDone, At: api.Moment{Epoch: 0, Round: -1}},
		round(0, 0, refs(api.MaxRefs+1)...),
		done(0, refs(api.MaxRefs+1)...),
	}
	for _, r := range []api.Ref{
		{},
		ref("", 1, 0),
		ref(long+"n", 1, 0),
		ref("a", 0, 0),
		ref("a", -1, 0),
		ref("a", math.MinInt, 0),
		ref("a", 1<<61+1, 0),
		ref("a", math.MaxInt, 0),
		ref("a", 1, -1),
		ref("a", 1, math.MinInt),
		ref("a", 1, api.MaxEntries+1),
		ref("a", 1, math.MaxInt),
	} {
		l = append(l, round(0, 0, r), done(0, r), round(0, 0, ref("b", 1, 1), r), done(0, r, ref("b", 1, 1)))
	}
	return l
}

// P14.1: what Check and Put refuse.
func TestUnfit(t *testing.T) {
	for _, e := range unfit() {
		if errno := edit.Check(e); errno != api.ErrEdit {
			t.Error("Check", e, errno)
		}
		if b, errno := edit.Put(e); b != nil || errno != api.ErrEdit {
			t.Error("Put", e, b, errno)
		}
	}
}

// P14.1: an edit's bytes, and that just these are got.
func TestBytes(t *testing.T) {
	for want, e := range fit() {
		if errno := edit.Check(e); errno != api.OK {
			t.Error("Check", e, errno)
		}
		if b, errno := edit.Put(e); string(b) != want || errno != api.OK {
			t.Errorf("Put %v: %q, %d, want %q", e, b, errno, want)
		}
		got(t, []byte(want), e)
		for n := range len(want) {
			notGot(t, []byte(want[:n]))
		}
		notGot(t, []byte(want+"\x00"))
		notGot(t, []byte(want+want))
	}
}

func got(t *testing.T, b []byte, want api.Edit) {
	t.Helper()
	e, errno := edit.Get(b)
	if errno != api.OK || e.Kind != want.Kind || e.At != want.At || !slices.Equal(e.Refs, want.Refs) {
		t.Fatalf("Get %q: %v, %d, want %v", b, e, errno, want)
	}
}

func notGot(t *testing.T, b []byte) {
	t.Helper()
	e, errno := edit.Get(b)
	if errno != api.ErrEdit || e.Kind != 0 || e.At != (api.Moment{}) || e.Refs != nil {
		t.Fatalf("Get %q: %v, %d", b, e, errno)
	}
}

// P14.1: bytes that say what no edit may be, or say it with other bytes than an edit's.
func TestNoBytes(t *testing.T) {
	for _, s := range []string{
		"",
		"\x00\x00\x00\x00", // no such kind
		"\x03\x00\x00\x00",
		"\xff\x00\x00\x00",
		"\x02\x00\x01\x00",                          // an epoch that is done at a round
		"\x01\xf9\x01\x00\x00\x00\x00",              // no such epoch
		"\x01\x00\xf9\x01\x00\x00\x00",              // no such round
		"\x01\xf8\x00\x01\x00\x00",                  // a number in more bytes than need be
		"\x01\x00\x00\x01\x00\x01\x00",              // no name
		"\x01\x00\x00\x01\x19n" + long + "\x01\x00", // a name that is too long
		"\x01\x00\x00\x01\x01a\x00\x00",             // no base
		"\x01\x00\x00\x01\x01a\xfe\x20\x00\x00\x00\x00\x00\x00\x01\x00", // a base that is too great
		"\x01\x00\x00\x01\x01a\x01\xf8\x40\x01",                         // too many entries
		"\x01\x00\x00\xfe\x7f\xff\xff\xff\xff\xff\xff\xff",              // too many refs
		"\x01\x00\x00\xfe\xff\xff\xff\xff\xff\xff\xff\xff",
		"\x01\x00\x00\x01\x01a\x01",     // no count
		"\x01\x00\x00\x02\x01a\x01\x00", // less refs than are told
		"\x01\x00\x00\x00\x01a\x01\x00", // more refs than are told
	} {
		notGot(t, []byte(s))
	}
	one := []byte("\x01a\x01\x00")
	got(t, slices.Concat([]byte{1, 0, 0, 240, 16}, bytes.Repeat(one, api.MaxRefs)), round(0, 0, slices.Repeat([]api.Ref{ref("a", 1, 0)}, api.MaxRefs)...))
	notGot(t, slices.Concat([]byte{1, 0, 0, 240, 17}, bytes.Repeat(one, api.MaxRefs+1)))
}

// some is an edit that may be.
func some(r *rand.Rand) api.Edit {
	numbers := []int{0, 1, 239, 240, 2287, 2288, api.MaxEpoch - 1}
	e := round(numbers[r.Intn(len(numbers))], numbers[r.Intn(len(numbers))])
	if r.Intn(2) == 0 {
		e = done(e.At.Epoch)
	}
	for range r.Intn(4) {
		e.Refs = append(e.Refs, ref(long[:1+r.Intn(len(long))], 1+r.Intn(1<<r.Intn(62)), r.Intn(api.MaxEntries+1)))
	}
	return e
}

// P14.3: what was put is got; and bytes that are got are those that are put.
func TestPutGet(t *testing.T) {
	r := rand.New(rand.NewSource(14))
	edits := 0
	for range 3000 {
		e := some(r)
		b, errno := edit.Put(e)
		if errno != api.OK {
			t.Fatal(e, errno)
		}
		got(t, b, e)
		for range 20 {
			x := slices.Clone(b)
			switch i := r.Intn(len(x)); r.Intn(3) {
			case 0:
				x[i] = byte(r.Intn(256))
			case 1:
				x = slices.Delete(x, i, i+1)
			case 2:
				x = slices.Insert(x, i, byte(r.Intn(256)))
			}
			read, errno := edit.Get(x)
			if errno != api.OK {
				notGot(t, x)
				continue
			}
			edits++
			if again, errno := edit.Put(read); errno != api.OK || !bytes.Equal(again, x) {
				t.Fatalf("%q is %v, the bytes of which are %q, %d", x, read, again, errno)
			}
		}
	}
	if edits < 1000 {
		t.Error(edits)
	}
}

// P14.1: Same asks of all parts.
func TestSame(t *testing.T) {
	l := []api.Edit{{}, {Kind: -7}, round(0, 0), round(0, 1), round(1, 0), done(0), done(1), round(-1, 0)}
	for _, x := range [][]api.Ref{
		{ref("a", 1, 2)},
		{ref("b", 1, 2)},
		{ref("a", 2, 2)},
		{ref("a", 1, 1)},
		{ref("", -1, -1)},
		{{}},
		{ref("a", 1, 2), ref("b", 1, 2)},
		{ref("b", 1, 2), ref("a", 1, 2)},
		{ref("a", 1, 2), ref("a", 1, 2)},
	} {
		l = append(l, round(0, 0, x...))
	}
	for i, a := range l {
		for j, b := range l {
			b.Refs = slices.Clone(b.Refs)
			if edit.Same(a, b) != (i == j) {
				t.Error(a, b)
			}
		}
	}
	none := round(0, 0)
	empty := round(0, 0)
	empty.Refs = []api.Ref{}
	if !edit.Same(none, empty) || !edit.Same(empty, none) {
		t.Error("nil and the empty list are the same")
	}
}

// made is a state of these edits.
func made(t *testing.T, l ...api.Edit) *edit.State {
	t.Helper()
	s := edit.New()
	if s == nil {
		t.Fatal("New")
	}
	apply(t, s, l...)
	return s
}

func apply(t *testing.T, s *edit.State, l ...api.Edit) {
	t.Helper()
	for _, e := range l {
		if errno := s.Apply(e); errno != api.OK {
			t.Fatal(e, errno)
		}
	}
}

// is asks for all that a state tells: these are its epochs' edits, and the mark is at most one.
func is(t *testing.T, s *edit.State, epochs []api.Edit, mark ...api.Edit) {
	t.Helper()
	if s.Next() != len(epochs) {
		t.Fatalf("Next: %d, want %d", s.Next(), len(epochs))
	}
	for i, e := range epochs {
		if x, ok := s.Done(i); !ok || !edit.Same(x, e) {
			t.Fatalf("Done %d: %v, %v, want %v", i, x, ok, e)
		}
	}
	for _, i := range []int{-1, math.MinInt, len(epochs), len(epochs) + 1, math.MaxInt} {
		if x, ok := s.Done(i); ok || !edit.Same(x, api.Edit{}) {
			t.Fatalf("Done %d: %v, %v", i, x, ok)
		}
	}
	if x, ok := s.Mark(); ok != (len(mark) == 1) || !edit.Same(x, append(slices.Clone(mark), api.Edit{})[0]) {
		t.Fatalf("Mark: %v, %v, want %v", x, ok, mark)
	}
	all := slices.Concat(epochs, mark)
	if l := s.Edits(); !slices.EqualFunc(l, all, edit.Same) {
		t.Fatalf("Edits: %v, want %v", l, all)
	}
	var names []string
	for _, e := range all {
		for _, r := range e.Refs {
			names = append(names, r.Name)
		}
	}
	slices.Sort(names)
	if l := s.Names(); !slices.Equal(l, slices.Compact(names)) {
		t.Fatalf("Names: %q, want %q", l, names)
	}
}

// refused asks that an edit is refused, and nothing changes.
func refused(t *testing.T, s *edit.State, want api.Errno, l ...api.Edit) {
	t.Helper()
	for _, e := range l {
		before := s.Edits()
		if errno := s.Apply(e); errno != want {
			t.Fatalf("Apply %v: %d, want %d", e, errno, want)
		}
		if !slices.EqualFunc(s.Edits(), before, edit.Same) {
			t.Fatal(e, "is refused, and changes", before, s.Edits())
		}
	}
}

// P14.2, example 1: round 2 of epoch 0, then epoch 0 is done: no mark, Next 1.
func TestExample(t *testing.T) {
	is(t, made(t, round(0, 2), done(0)), []api.Edit{done(0)})
}

// P14.2: a state goes on, round by round, epoch by epoch.
func TestState(t *testing.T) {
	s := made(t)
	is(t, s, nil)
	a, b, c := round(0, 0, ref("z", 1, 2), ref("a", 5, 6)), round(0, 3, ref("m", 1, 2), ref("m", 3, 4)), round(0, api.MaxRound-1)
	apply(t, s, a)
	is(t, s, nil, a)
	apply(t, s, b)
	is(t, s, nil, b)
	apply(t, s, c)
	is(t, s, nil, c)
	d, e := done(0, ref("y", 1, 1), ref("b", 1, 1), ref("y", 1, 1)), done(1)
	apply(t, s, d)
	is(t, s, []api.Edit{d})
	apply(t, s, e) // without a round
	is(t, s, []api.Edit{d, e})
	f := round(2, 1, ref("b", 7, 7), ref("c", 7, 7))
	apply(t, s, f)
	is(t, s, []api.Edit{d, e}, f)
	g := done(2, ref("b", 8, 8), ref(long, 1, 1))
	apply(t, s, g)
	is(t, s, []api.Edit{d, e, g})
}

// P14.2: what does not go on from a state.
func TestRefused(t *testing.T) {
	s := made(t)
	refused(t, s, api.ErrArg, done(1), round(1, 0), round(api.MaxEpoch-1, 5), done(api.MaxEpoch-1))
	refused(t, s, api.ErrEdit, unfit()...)
	apply(t, s, done(0), done(1, ref("a", 1, 1)))
	refused(t, s, api.ErrArg, done(0), done(1), done(3), round(0, 0), round(1, 7), round(3, 0))
	apply(t, s, round(2, 4, ref("b", 1, 1)))
	refused(t, s, api.ErrArg, round(2, 0), round(2, 3), round(2, 4), round(2, 4, ref("b", 1, 1)), round(3, 5), round(1, 5), done(1), done(3))
	refused(t, s, api.ErrEdit, unfit()...)
	apply(t, s, round(2, 5))
	refused(t, s, api.ErrArg, round(2, 5))
	apply(t, s, done(2), round(3, 0)) // the mark of the epoch ahead does not count any more
	refused(t, s, api.ErrArg, round(3, 0))
	is(t, s, []api.Edit{done(0), done(1, ref("a", 1, 1)), done(2)}, round(3, 0))
}

// P14.2: behind the last epoch none goes on.
func TestLastEpoch(t *testing.T) {
	s := made(t)
	for epoch := range api.MaxEpoch {
		apply(t, s, done(epoch))
	}
	refused(t, s, api.ErrEdit, done(api.MaxEpoch), round(api.MaxEpoch, 0))
	refused(t, s, api.ErrArg, done(api.MaxEpoch-1), round(api.MaxEpoch-1, 0))
	if s.Next() != api.MaxEpoch {
		t.Error(s.Next())
	}
}

// P14.2, P14.3: held against a plain list of edits; and what Edits tells makes the state again.
func TestAgainstList(t *testing.T) {
	x := rand.New(rand.NewSource(141))
	for range 100 {
		s := made(t)
		var epochs, mark []api.Edit
		for range 60 {
			e := api.Edit{Kind: 1 + x.Intn(3), At: api.Moment{Epoch: len(epochs) + x.Intn(8)/7 - x.Intn(8)/7}}
			if e.Kind != api.EditDone {
				e.At.Round = x.Intn(6)
			}
			for range x.Intn(4) {
				e.Refs = append(e.Refs, ref(strconv.Itoa(x.Intn(12)), 1+x.Intn(9), x.Intn(9)))
			}
			want := api.OK
			switch {
			case e.Kind == 3 || e.At.Epoch < 0:
				want = api.ErrEdit
			case e.At.Epoch != len(epochs), e.Kind == api.EditRound && len(mark) > 0 && e.At.Round <= mark[0].At.Round:
				want = api.ErrArg
			case e.Kind == api.EditRound:
				mark = []api.Edit{e}
			default:
				epochs, mark = append(epochs, e), nil
			}
			if errno := s.Apply(e); errno != want {
				t.Fatal(e, errno, want)
			}
			is(t, s, epochs, mark...)
			is(t, made(t, s.Edits()...), epochs, mark...)
		}
	}
}

// P14.2: of a nil State.
func TestNil(t *testing.T) {
	var s *edit.State
	for _, e := range append(unfit(), done(0), round(0, 0)) {
		if errno := s.Apply(e); errno != api.ErrClosed {
			t.Error(e, errno)
		}
	}
	is(t, s, nil)
}

// Rule R3: answers are new memory, what is handed in is neither changed nor kept.
func TestMemory(t *testing.T) {
	spoil := func(l []api.Ref) {
		for i := range l[:cap(l)] {
			l[:cap(l)][i] = ref("spoilt", 9, 9)
		}
	}
	want := refs(5)
	a, b := refs(5), refs(5)
	s := made(t, done(0, a[:3]...), round(1, 2, b[:2]...))
	if !slices.Equal(a, want) || !slices.Equal(b, want) {
		t.Error(a, b)
	}
	spoil(a)
	spoil(b)
	for range 2 {
		d, _ := s.Done(0)
		spoil(d.Refs)
		m, _ := s.Mark()
		spoil(m.Refs)
		for _, e := range s.Edits() {
			if !slices.Equal(e.Refs, want[:len(e.Refs)]) {
				t.Error(e)
			}
			spoil(e.Refs)
		}
		names := s.Names()
		for i := range names[:cap(names)] {
			names[:cap(names)][i] = "spoilt"
		}
		is(t, s, []api.Edit{done(0, want[:3]...)}, round(1, 2, want[:2]...))
	}
	c := refs(5)
	put, _ := edit.Put(round(0, 0, c[:4]...))
	room := append(slices.Clone(put), 7, 7)
	e, errno := edit.Get(room[:len(put)])
	if errno != api.OK || !slices.Equal(c, want) || !bytes.Equal(room, append(put, 7, 7)) {
		t.Error(errno, c, room)
	}
	clear(room)
	if !slices.Equal(e.Refs, want[:4]) {
		t.Error(e)
	}
	spoil(e.Refs)
	if !slices.Equal(c, want) {
		t.Error(c)
	}
}
