package moment_test

import (
	"bytes"
	"cmp"
	"math"
	"slices"
	"testing"

	"oxbow/api"
	"oxbow/moment"
	"oxbow/num"
)

// of makes moments of epochs and rounds, in turns.
func of(n ...int) []api.Moment {
	var l []api.Moment
	for i := 0; i < len(n); i += 2 {
		l = append(l, api.Moment{Epoch: n[i], Round: n[i+1]})
	}
	return l
}

// wrong are moments that may not be: each number beyond each edge.
var wrong = of(-1, 0, 0, -1, -1, -1, api.MaxEpoch, 0, 0, api.MaxRound, api.MaxEpoch, api.MaxRound, math.MinInt, 0, 0, math.MinInt, math.MaxInt, 0, 0, math.MaxInt)

// edges are moments that may be, in order.
var edges = of(0, 0, 0, 1, 0, api.MaxRound-1, 1, 0, 1, 239, 1, 240, 239, 3, 240, 3, 2287, 5, 2288, 5, api.MaxEpoch-1, 0, api.MaxEpoch-1, api.MaxRound-1)

// odd are edges and moments that may not be, of which calls that refuse nothing are asked too.
func odd() []api.Moment {
	return slices.Concat(edges, wrong)
}

// grid is all moments of so many epochs and rounds.
func grid(n int) []api.Moment {
	var l []api.Moment
	for epoch := range n {
		for round := range n {
			l = append(l, api.Moment{Epoch: epoch, Round: round})
		}
	}
	return l
}

// some are all lists of the moments of a grid of 3 that the bits of a number choose; each other one backwards.
func some() [][]api.Moment {
	all := grid(3)
	var lists [][]api.Moment
	for bits := range 1 << len(all) {
		var l []api.Moment
		for i, m := range all {
			if bits>>i&1 == 1 {
				l = append(l, m)
			}
		}
		if bits%2 == 1 {
			slices.Reverse(l)
		}
		lists = append(lists, l)
	}
	return lists
}

// stairs is a front of n moments, backwards.
func stairs(n int) []api.Moment {
	l := make([]api.Moment, n)
	for i := range l {
		l[i] = api.Moment{Epoch: n - 1 - i, Round: i}
	}
	return l
}

func notBehind(a, b api.Moment) bool {
	return !(a.Epoch > b.Epoch || a.Round > b.Round)
}

func covers(f []api.Moment, m api.Moment) bool {
	for _, x := range f {
		if notBehind(x, m) {
			return true
		}
	}
	return false
}

// P4.1: Check.
func TestCheck(t *testing.T) {
	for _, m := range edges {
		if e := moment.Check(m); e != api.OK {
			t.Errorf("%v: %d", m, e)
		}
	}
	for _, m := range wrong {
		if e := moment.Check(m); e != api.ErrMoment {
			t.Errorf("%v: %d", m, e)
		}
	}
}

// P4.1: Ahead, Compare, Join and Meet, also of moments that may not be.
func TestPairs(t *testing.T) {
	l := append(odd(), grid(3)...)
	for _, a := range l {
		for _, b := range l {
			if x := moment.Ahead(a, b); x != notBehind(a, b) {
				t.Errorf("Ahead of %v and %v: %v", a, b, x)
			}
			want := cmp.Compare(a.Epoch, b.Epoch)
			if want == 0 {
				want = cmp.Compare(a.Round, b.Round)
			}
			if x := moment.Compare(a, b); x != want {
				t.Errorf("Compare of %v and %v: %d", a, b, x)
			}
			if x := moment.Join(a, b); x != (api.Moment{Epoch: max(a.Epoch, b.Epoch), Round: max(a.Round, b.Round)}) {
				t.Errorf("Join of %v and %v: %v", a, b, x)
			}
			if x := moment.Meet(a, b); x != (api.Moment{Epoch: min(a.Epoch, b.Epoch), Round: min(a.Round, b.Round)}) {
				t.Errorf("Meet of %v and %v: %v", a, b, x)
			}
		}
	}
	for i, a := range edges {
		for j, b := range edges {
			if x := moment.Compare(a, b); x != cmp.Compare(i, j) {
				t.Errorf("Compare of %v and %v: %d", a, b, x)
			}
		}
	}
}

// P4.1: one by one, what the words say.
func TestPairsWritten(t *testing.T) {
	for _, c := range []struct {
		a, b, join, meet api.Moment
		ahead, behind    bool
	}{
		{api.Moment{Epoch: 1, Round: 3}, api.Moment{Epoch: 2, Round: 1}, api.Moment{Epoch: 2, Round: 3}, api.Moment{Epoch: 1, Round: 1}, false, false},
		{api.Moment{Epoch: 1, Round: 3}, api.Moment{Epoch: 1, Round: 3}, api.Moment{Epoch: 1, Round: 3}, api.Moment{Epoch: 1, Round: 3}, true, true},
		{api.Moment{Epoch: 1, Round: 3}, api.Moment{Epoch: 1, Round: 4}, api.Moment{Epoch: 1, Round: 4}, api.Moment{Epoch: 1, Round: 3}, true, false},
		{api.Moment{Epoch: 5, Round: 3}, api.Moment{Epoch: 4, Round: 3}, api.Moment{Epoch: 5, Round: 3}, api.Moment{Epoch: 4, Round: 3}, false, true},
	} {
		if moment.Ahead(c.a, c.b) != c.ahead || moment.Ahead(c.b, c.a) != c.behind {
			t.Errorf("Ahead of %v and %v", c.a, c.b)
		}
		if moment.Join(c.a, c.b) != c.join || moment.Meet(c.a, c.b) != c.meet {
			t.Errorf("%v and %v: %v, %v", c.a, c.b, moment.Join(c.a, c.b), moment.Meet(c.a, c.b))
		}
	}
}

// P4.1: Front of all small lists: a front, which covers what any of them covers.
func TestFront(t *testing.T) {
	probes := grid(4)
	for _, l := range some() {
		f, e := moment.Front(l)
		if e != api.OK {
			t.Fatalf("%v: %d", l, e)
		}
		for i, a := range f {
			if i > 0 && f[i-1].Epoch >= a.Epoch {
				t.Fatalf("%v: %v is not by rising epochs", l, f)
			}
			for j, b := range f {
				if i != j && notBehind(a, b) {
					t.Fatalf("%v: %v is no front", l, f)
				}
			}
		}
		for _, m := range probes {
			if covers(f, m) != covers(l, m) {
				t.Fatalf("%v: %v, of %v", l, f, m)
			}
		}
	}
	for _, c := range [][2][]api.Moment{
		{of(1, 3, 2, 1, 2, 4), of(1, 3, 2, 1)},
		{of(2, 4, 2, 1, 1, 3), of(1, 3, 2, 1)},
		{nil, nil},
		{of(7, 7), of(7, 7)},
		{of(7, 7, 7, 7, 7, 7), of(7, 7)},
		{of(7, 7, 7, 6), of(7, 6)},
		{of(6, 7, 7, 7), of(6, 7)},
		{edges, of(0, 0)},
		{of(api.MaxEpoch-1, 0, 0, api.MaxRound-1), of(0, api.MaxRound-1, api.MaxEpoch-1, 0)},
	} {
		if f, e := moment.Front(c[0]); e != api.OK || !slices.Equal(f, c[1]) {
			t.Errorf("%v: %v, %d, want %v", c[0], f, e, c[1])
		}
	}
}

// P4.1: Front at its limit: how many moments the front has counts, not how many are handed in.
func TestFrontLimit(t *testing.T) {
	full := stairs(api.MaxFront)
	want := slices.Clone(full)
	slices.Reverse(want)
	if f, e := moment.Front(full); e != api.OK || !slices.Equal(f, want) {
		t.Errorf("a full front: %d moments, %d", len(f), e)
	}
	if f, e := moment.Front(slices.Concat(full, full, of(api.MaxFront, api.MaxFront))); e != api.OK || !slices.Equal(f, want) {
		t.Errorf("a full front, twice: %d moments, %d", len(f), e)
	}
	for _, n := range []int{api.MaxFront + 1, 3 * api.MaxFront} {
		over := stairs(n)
		if f, e := moment.Front(over); e != api.ErrMany || len(f) != 0 {
			t.Errorf("%d: %d moments, %d", n, len(f), e)
		}
		if f, e := moment.Front(append(over, api.Moment{})); e != api.OK || !slices.Equal(f, of(0, 0)) {
			t.Errorf("%d and one that covers all: %d moments, %d", n, len(f), e)
		}
		for _, m := range wrong {
			if f, e := moment.Front(append(over, m)); e != api.ErrMoment || len(f) != 0 {
				t.Errorf("%d and %v: %d moments, %d", n, m, len(f), e)
			}
		}
	}
	if f, e := moment.Front(grid(100)); e != api.OK || !slices.Equal(f, of(0, 0)) {
		t.Errorf("many moments: %v, %d", f, e)
	}
}

// P4.1: Front of moments that may not be, wherever they stand.
func TestFrontWrong(t *testing.T) {
	for _, m := range wrong {
		for _, l := range [][]api.Moment{{m}, {m, {}}, {{}, m}, append(of(1, 3, 2, 1), m), append([]api.Moment{m}, edges...)} {
			if f, e := moment.Front(l); e != api.ErrMoment || len(f) != 0 {
				t.Errorf("%v: %v, %d", l, f, e)
			}
		}
	}
}

// P4.1: Covers and Beyond of any moments, fronts or not.
func TestCovers(t *testing.T) {
	probes := append(odd(), grid(4)...)
	lists := append(some(), odd(), wrong)
	for _, f := range lists {
		for _, m := range probes {
			if x := moment.Covers(f, m); x != covers(f, m) {
				t.Fatalf("%v, of %v: %v", f, m, x)
			}
		}
	}
	for i := 0; i < len(lists); i += 5 {
		for j := 0; j < len(lists); j += 3 {
			f, g := lists[i], lists[j]
			want := true
			for _, m := range f {
				want = want && covers(g, m)
			}
			if x := moment.Beyond(f, g); x != want {
				t.Fatalf("%v, by %v: %v", f, g, x)
			}
		}
	}
	if moment.Covers(nil, api.Moment{}) || !moment.Beyond(nil, nil) || !moment.Beyond([]api.Moment{}, of(1, 1)) || moment.Beyond(of(1, 1), nil) {
		t.Error("of no moments")
	}
	if !moment.Beyond(of(2, 2, 1, 3), of(1, 1)) || moment.Beyond(of(1, 1), of(2, 2)) || moment.Beyond(of(2, 2, 0, 5), of(1, 1)) || moment.Beyond(wrong, of(0, 0)) {
		t.Error("Beyond")
	}
}

// P4.2: Walk.
func TestWalk(t *testing.T) {
	const last = api.MaxRound - 1
	for _, c := range []struct {
		w    api.Way
		m    api.Moment
		want api.Moment
		e    api.Errno
	}{
		{api.Way{}, api.Moment{Epoch: 3, Round: 4}, api.Moment{Epoch: 3, Round: 4}, api.OK},
		{api.Way{Add: 1}, api.Moment{Epoch: 3, Round: 4}, api.Moment{Epoch: 3, Round: 5}, api.OK},
		{api.Way{Set: true}, api.Moment{Epoch: 3, Round: 4}, api.Moment{Epoch: 3}, api.OK},
		{api.Way{Set: true, Add: 9}, api.Moment{Epoch: 3, Round: 4}, api.Moment{Epoch: 3, Round: 9}, api.OK},
		{api.Way{Set: true, Add: last}, api.Moment{Epoch: 3, Round: last}, api.Moment{Epoch: 3, Round: last}, api.OK},
		{api.Way{Add: last}, api.Moment{Epoch: api.MaxEpoch - 1}, api.Moment{Epoch: api.MaxEpoch - 1, Round: last}, api.OK},
		{api.Way{Add: 1}, api.Moment{Round: last - 1}, api.Moment{Round: last}, api.OK},
		{api.Way{Add: 1}, api.Moment{Round: last}, api.Moment{}, api.ErrMoment},
		{api.Way{Add: last}, api.Moment{Epoch: 1, Round: 1}, api.Moment{}, api.ErrMoment},
		{api.Way{Add: last}, api.Moment{Epoch: 1, Round: last}, api.Moment{}, api.ErrMoment},
	} {
		if x, e := moment.Walk(c.w, c.m); e != c.e || x != c.want {
			t.Errorf("%v of %v: %v, %d, want %v, %d", c.w, c.m, x, e, c.want, c.e)
		}
	}
}

// wrongWays are ways that may not be.
func wrongWays() []api.Way {
	var l []api.Way
	for _, add := range []int{-1, api.MaxRound, api.MaxRound + 1, math.MinInt, math.MaxInt} {
		l = append(l, api.Way{Add: add}, api.Way{Set: true, Add: add})
	}
	return l
}

// P4.2: Walk of what may not be: the way comes ahead of the moment.
func TestWalkWrong(t *testing.T) {
	for _, w := range wrongWays() {
		for _, m := range odd() {
			if x, e := moment.Walk(w, m); e != api.ErrArg || x != (api.Moment{}) {
				t.Errorf("%v of %v: %v, %d", w, m, x, e)
			}
		}
	}
	for _, w := range []api.Way{{}, {Add: 1}, {Set: true}, {Set: true, Add: 1}, {Add: api.MaxRound - 1}} {
		for _, m := range wrong {
			if x, e := moment.Walk(w, m); e != api.ErrMoment || x != (api.Moment{}) {
				t.Errorf("%v of %v: %v, %d", w, m, x, e)
			}
		}
	}
}

// P4.2: Then; P4.3: a way, and then another one, is both.
func TestThen(t *testing.T) {
	var ways []api.Way
	for _, add := range []int{0, 1, 2, 3, api.MaxRound/2 - 1, api.MaxRound / 2, api.MaxRound - 3, api.MaxRound - 2, api.MaxRound - 1} {
		ways = append(ways, api.Way{Add: add}, api.Way{Set: true, Add: add})
	}
	rounds := []int{0, 1, 2, 5, api.MaxRound / 2, api.MaxRound - 2, api.MaxRound - 1}
	for _, a := range ways {
		for _, b := range ways {
			both, e := moment.Then(a, b)
			want := api.Way{Set: a.Set || b.Set, Add: a.Add + b.Add}
			if b.Set {
				want.Add = b.Add
			}
			if want.Add > api.MaxRound-1 {
				if e != api.ErrArg || both != (api.Way{}) {
					t.Errorf("%v, then %v: %v, %d", a, b, both, e)
				}
				continue
			}
			if e != api.OK || both != want {
				t.Errorf("%v, then %v: %v, %d, want %v", a, b, both, e, want)
			}
			for _, round := range rounds {
				m := api.Moment{Epoch: 7, Round: round}
				first, e := moment.Walk(a, m)
				if e != api.OK {
					continue // no moment from which to go on
				}
				x, ex := moment.Walk(b, first)
				y, ey := moment.Walk(both, m)
				if x != y || ex != ey {
					t.Errorf("%v, then %v, of %v: %v, %d; both at once: %v, %d", a, b, m, x, ex, y, ey)
				}
			}
		}
	}
	for _, w := range wrongWays() {
		for _, ok := range append(ways, w) {
			if x, e := moment.Then(w, ok); e != api.ErrArg || x != (api.Way{}) {
				t.Errorf("%v, then %v: %v, %d", w, ok, x, e)
			}
			if x, e := moment.Then(ok, w); e != api.ErrArg || x != (api.Way{}) {
				t.Errorf("%v, then %v: %v, %d", ok, w, x, e)
			}
		}
	}
}

// P4.2: Put and Read.
func TestPutRead(t *testing.T) {
	var was []byte
	for _, m := range edges {
		b, e := moment.Put(m)
		epoch, _ := num.Put(m.Epoch)
		round, _ := num.Put(m.Round)
		if e != api.OK || !bytes.Equal(b, append(epoch, round...)) || bytes.Compare(was, b) >= 0 {
			t.Errorf("Put(%v) = %v, %d", m, b, e)
		}
		was = b
		p := num.From(append(slices.Clone(b), 9))
		if x, e := moment.Read(p); e != api.OK || x != m || p.Bad() || p.Left() != 1 {
			t.Errorf("%v is read as %v, %d, %d bytes left", m, x, e, p.Left())
		}
		for i := range b {
			p := num.From(b[:i])
			if x, e := moment.Read(p); e != api.ErrCode || x != (api.Moment{}) || !p.Bad() {
				t.Errorf("%d bytes of %v are read as %v, %d", i, m, x, e)
			}
		}
	}
	for _, m := range wrong {
		if b, e := moment.Put(m); e != api.ErrMoment || len(b) != 0 {
			t.Errorf("Put(%v) = %v, %d", m, b, e)
		}
	}
	if b, _ := moment.Put(api.Moment{Epoch: 3, Round: 2288}); !bytes.Equal(b, []byte{3, 248, 8, 240}) {
		t.Errorf("%v", b)
	}
}

// P4.2: Read of what is no moment: a bad reader comes ahead of a moment that may not be.
func TestReadWrong(t *testing.T) {
	great, _ := num.Put(api.MaxEpoch)
	greatest, _ := num.Put(math.MaxInt)
	for _, c := range []struct {
		b    []byte
		want api.Errno
	}{
		{nil, api.ErrCode},
		{[]byte{255, 1}, api.ErrCode},
		{[]byte{1, 255}, api.ErrCode},
		{[]byte{248, 0, 5, 1}, api.ErrCode},
		{great, api.ErrCode},
		{append(slices.Clone(great), 255), api.ErrCode},
		{append(slices.Clone(great), 1), api.ErrMoment},
		{append([]byte{1}, great...), api.ErrMoment},
		{append(slices.Clone(great), great...), api.ErrMoment},
		{append(slices.Clone(greatest), 0), api.ErrMoment},
		{append([]byte{0}, greatest...), api.ErrMoment},
	} {
		p := num.From(c.b)
		if x, e := moment.Read(p); e != c.want || x != (api.Moment{}) || e == api.ErrCode && !p.Bad() {
			t.Errorf("%v: %v, %d, want %d", c.b, x, e, c.want)
		}
	}
	p := num.From([]byte{1, 2, 3, 4})
	p.Fixed(0)
	if x, e := moment.Read(p); e != api.ErrCode || x != (api.Moment{}) {
		t.Errorf("of a bad reader: %v, %d", x, e)
	}
	if x, e := moment.Read(nil); e != api.ErrCode || x != (api.Moment{}) {
		t.Errorf("of no reader: %v, %d", x, e)
	}
}

// P4.3: not being behind goes on over steps; what is covered stays so for what is behind it.
func TestGoesOn(t *testing.T) {
	all := grid(4)
	for _, a := range all {
		for _, b := range all {
			if !moment.Ahead(a, b) {
				continue
			}
			for _, c := range all {
				if moment.Ahead(b, c) && !moment.Ahead(a, c) {
					t.Errorf("%v, %v, %v", a, b, c)
				}
			}
			for i, l := range some() {
				if i%7 == 0 && moment.Covers(l, a) && !moment.Covers(l, b) {
					t.Errorf("%v covers %v, not %v", l, a, b)
				}
			}
		}
	}
}

// R3: what is handed in, and the room behind it, is not changed; answers are new memory.
func TestNothingIsShared(t *testing.T) {
	room := of(5, 1, 2, 4, 2, 4, 1, 3, 0, 0, 9, 9, 0, 1)
	was := slices.Clone(room)
	l := room[:4]
	first, _ := moment.Front(l)
	want := slices.Clone(first)
	moment.Covers(l, room[5])
	moment.Beyond(l, room[2:4])
	for i := range first[:cap(first)] {
		first[:cap(first)][i] = api.Moment{Epoch: 77, Round: 77}
	}
	if again, _ := moment.Front(l); !slices.Equal(again, want) || !slices.Equal(room, was) {
		t.Errorf("%v, want %v; %v", again, want, room)
	}
	one := of(1, 1)
	f, _ := moment.Front(one)
	f[0].Round = 9
	if one[0].Round != 1 {
		t.Error("a front of one moment is its argument")
	}
	b, _ := moment.Put(one[0])
	for i := range b[:cap(b)] {
		b[:cap(b)][i] = 99
	}
	if again, _ := moment.Put(one[0]); !bytes.Equal(again, []byte{1, 1}) {
		t.Errorf("%v", again)
	}
}
