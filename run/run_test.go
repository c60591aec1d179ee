package run_test

import (
	"math"
	"math/rand"
	"slices"
	"testing"

	"oxbow/api"
	"oxbow/entry"
	"oxbow/moment"
	"oxbow/run"
)

func at(epoch, round int) api.Moment {
	return api.Moment{Epoch: epoch, Round: round}
}

// of makes entries of epochs, rounds, keys and values, in turns.
func of(n ...int) []api.Entry {
	var l []api.Entry
	for i := 0; i < len(n); i += 4 {
		l = append(l, api.Entry{At: at(n[i], n[i+1]), Rec: api.Rec{Key: n[i+2], Val: n[i+3]}})
	}
	return l
}

func sorted(l []api.Entry) []api.Entry {
	l = slices.Clone(l)
	slices.SortFunc(l, entry.Compare)
	return l
}

// made is a run to which these were added.
func made(t *testing.T, limit int, l ...api.Entry) *run.Run {
	t.Helper()
	r, errno := run.New(limit)
	if errno != api.OK || r == nil {
		t.Fatal(limit, errno)
	}
	add(t, r, l...)
	return r
}

func add(t *testing.T, r *run.Run, l ...api.Entry) {
	t.Helper()
	for _, e := range l {
		if errno := r.Add(e); errno != api.OK {
			t.Fatal(e, errno)
		}
	}
}

// counts asks how many entries there are, and have been at most.
func counts(t *testing.T, r *run.Run, n, most int) {
	t.Helper()
	if r.Len() != n || r.Most() != most {
		t.Fatalf("Len %d, Most %d, want %d, %d", r.Len(), r.Most(), n, most)
	}
}

// has asks which entries there are.
func has(t *testing.T, r *run.Run, l ...api.Entry) {
	t.Helper()
	if all := r.All(); !slices.Equal(all, l) || r.Len() != len(l) {
		t.Fatalf("All: %v, Len %d, want %v", all, r.Len(), l)
	}
}

// P12.1: New, and that the run is empty.
func TestNew(t *testing.T) {
	for _, limit := range []int{math.MinInt, -1, 0, api.MaxRun + 1, math.MaxInt} {
		if r, errno := run.New(limit); r != nil || errno != api.ErrArg {
			t.Error(limit, errno)
		}
	}
	for _, limit := range []int{1, 2, 1000, api.MaxRun} {
		r := made(t, limit)
		counts(t, r, 0, 0)
		has(t, r)
		if r.Limit() != limit || len(r.Take()) != 0 || len(r.At(at(0, 0))) != 0 || r.Keep(nil) != 0 || len(r.Front()) != 0 {
			t.Error(limit, "is not empty")
		}
	}
}

// P12.1, example 1: limit 1: the second Add is refused.
func TestExample(t *testing.T) {
	l := of(1, 2, 3, 4, 0, 0, 0, 0)
	r := made(t, 1, l[0])
	if errno := r.Add(l[1]); errno != api.ErrFull {
		t.Error(errno)
	}
	counts(t, r, 1, 1)
	has(t, r, l[0])
}

// P12.1: a run is full at its limit, and not ahead of it; once there is room, it is not full.
func TestFull(t *testing.T) {
	for _, limit := range []int{1, 2, 7, api.MaxRun} {
		r := made(t, limit)
		for range 2 {
			var want []api.Entry
			for i := range limit {
				e := of(i%5, i%7, i%11, i)[0]
				add(t, r, e)
				want = append(want, e)
			}
			for range 2 {
				if errno := r.Add(of(0, 0, 0, 0)[0]); errno != api.ErrFull {
					t.Fatal(limit, errno)
				}
			}
			counts(t, r, limit, limit)
			has(t, r, sorted(want)...)
			if l := r.Take(); !slices.Equal(l, sorted(want)) {
				t.Error(limit, l)
			}
		}
	}
}

// P12.1: Add refuses what entry.Check refuses, also of a full run, and holds nothing of it.
func TestAddRefuses(t *testing.T) {
	greatest := of(api.MaxEpoch-1, api.MaxRound-1, api.MaxNum, api.MaxNum)[0]
	for _, r := range []*run.Run{made(t, 2, greatest), made(t, 1, greatest)} {
		for _, c := range []struct {
			e    api.Entry
			want api.Errno
		}{
			{of(-1, 0, 0, 0)[0], api.ErrMoment},
			{of(0, -1, 0, 0)[0], api.ErrMoment},
			{of(api.MaxEpoch, 0, 0, 0)[0], api.ErrMoment},
			{of(0, api.MaxRound, 0, 0)[0], api.ErrMoment},
			{of(0, 0, -1, 0)[0], api.ErrRec},
			{of(0, 0, 0, -1)[0], api.ErrRec},
			{of(0, 0, api.MaxNum+1, 0)[0], api.ErrRec},
			{of(0, 0, 0, api.MaxNum+1)[0], api.ErrRec},
			{of(0, math.MinInt, math.MaxInt, 0)[0], api.ErrMoment},
		} {
			if errno := r.Add(c.e); errno != c.want {
				t.Error(c.e, errno, c.want)
			}
		}
		counts(t, r, 1, 1)
		has(t, r, greatest)
	}
}

// P12.1: All is in order, whatever the order in which they came, each as often; it takes nothing.
func TestAll(t *testing.T) {
	l := of(1, 0, 0, 0, 0, 9, 9, 9, 0, 0, 1, 1, 0, 0, 1, 0, 0, 0, 0, 9, 0, 1, 0, 0, 0, 0, 1, 0)
	r := made(t, 10, l...)
	for range 2 {
		has(t, r, of(0, 0, 0, 9, 0, 0, 1, 0, 0, 0, 1, 0, 0, 0, 1, 1, 0, 1, 0, 0, 0, 9, 9, 9, 1, 0, 0, 0)...)
	}
}

// P12.1: Take leaves nothing; Most keeps how many there were.
func TestTake(t *testing.T) {
	l := of(2, 0, 0, 0, 1, 0, 0, 0, 1, 0, 0, 0)
	r := made(t, 5, l...)
	if x := r.Take(); !slices.Equal(x, sorted(l)) {
		t.Error(x)
	}
	counts(t, r, 0, 3)
	has(t, r)
	if x := r.Take(); len(x) != 0 {
		t.Error(x)
	}
	add(t, r, l[0], l[1])
	counts(t, r, 2, 3)
	add(t, r, l...)
	counts(t, r, 5, 5)
	r.Keep([]api.Moment{at(2, 0)})
	counts(t, r, 2, 5)
	if r.Limit() != 5 {
		t.Error(r.Limit())
	}
}

// P12.1: At: the entries at just that moment, in order; they stay.
func TestAt(t *testing.T) {
	r := made(t, 20, of(1, 2, 5, 5, 1, 3, 0, 0, 1, 2, 0, 7, 2, 2, 0, 0, 0, 2, 0, 0, 1, 2, 5, 5, 1, 1, 0, 0)...)
	for range 2 {
		for m, want := range map[api.Moment][]api.Entry{
			at(1, 2):                           of(1, 2, 0, 7, 1, 2, 5, 5, 1, 2, 5, 5),
			at(1, 3):                           of(1, 3, 0, 0),
			at(2, 2):                           of(2, 2, 0, 0),
			at(2, 1):                           nil,
			at(0, 0):                           nil,
			at(0, 2):                           of(0, 2, 0, 0),
			at(math.MinInt, math.MaxInt):       nil,
			at(-1, 2):                          nil,
			at(api.MaxEpoch+1, 2):              nil,
			at(1<<32+1, 2):                     nil,
			at(api.MaxEpoch-1, api.MaxRound-1): nil,
		} {
			if l := r.At(m); !slices.Equal(l, want) {
				t.Error(m, l, want)
			}
		}
	}
	counts(t, r, 7, 7)
}

// P12.2: Keep leaves what is covered, and tells how many went.
func TestKeep(t *testing.T) {
	l := of(0, 5, 0, 0, 1, 1, 0, 0, 1, 2, 0, 0, 1, 2, 0, 0, 2, 0, 0, 0, 3, 0, 9, 9, 0, 0, 0, 0)
	for _, c := range []struct {
		f    []api.Moment
		want []api.Entry
	}{
		{nil, nil},
		{[]api.Moment{at(0, 0)}, sorted(l)},
		{[]api.Moment{at(-5, math.MinInt)}, sorted(l)},
		{[]api.Moment{at(1, 2)}, of(1, 2, 0, 0, 1, 2, 0, 0)},
		{[]api.Moment{at(1, 2), at(3, 0)}, of(1, 2, 0, 0, 1, 2, 0, 0, 3, 0, 9, 9)},
		{[]api.Moment{at(3, 0), at(0, 5), at(3, 0)}, of(0, 5, 0, 0, 3, 0, 9, 9)}, // f may be any moments
		{[]api.Moment{at(1, 1), at(1, 2)}, of(1, 1, 0, 0, 1, 2, 0, 0, 1, 2, 0, 0)},
		{[]api.Moment{at(4, 0), at(0, 6)}, nil},
		{[]api.Moment{at(math.MaxInt, math.MaxInt)}, nil},
	} {
		r := made(t, 20, l...)
		if n := r.Keep(c.f); n != len(l)-len(c.want) {
			t.Error(c.f, n)
		}
		has(t, r, c.want...)
		if n := r.Keep(c.f); n != 0 {
			t.Error(c.f, "again:", n)
		}
		counts(t, r, len(c.want), len(l))
		add(t, r, l[0])
		has(t, r, sorted(append(slices.Clone(c.want), l[0]))...)
	}
}

// P12.2: Front covers what is there, and nothing that is not behind it.
func TestFront(t *testing.T) {
	front := func(want []api.Moment, l ...api.Entry) {
		t.Helper()
		r := made(t, api.MaxRun, l...)
		if f := r.Front(); !slices.Equal(f, want) {
			t.Fatalf("Front: %v, want %v", f, want)
		}
		has(t, r, sorted(l)...)
	}
	front([]api.Moment{at(1, 3)}, of(1, 3, 9, 9)...)
	front([]api.Moment{at(1, 3), at(2, 1)}, of(2, 4, 0, 0, 1, 3, 0, 0, 2, 1, 0, 0, 2, 1, 5, 5)...)
	front([]api.Moment{at(0, 0)}, of(5, 5, 0, 0, 0, 9, 0, 0, 9, 0, 0, 0, 0, 0, 7, 7)...)

	// Of epochs that rise as rounds fall none is behind another one.
	var l []api.Entry
	var all []api.Moment
	for i := range api.MaxRun {
		l = append(l, of(i, api.MaxRun-i, 0, 0)...)
		all = append(all, at(i, api.MaxRun-i))
	}
	rand.New(rand.NewSource(1)).Shuffle(len(l), func(i, j int) { l[i], l[j] = l[j], l[i] })
	front(all[:api.MaxFront], l...)
	few := func(e api.Entry) bool { return e.At.Epoch >= api.MaxFront }
	front(all[:api.MaxFront], slices.DeleteFunc(slices.Clone(l), few)...)
	fewer := func(e api.Entry) bool { return e.At.Epoch >= api.MaxFront-1 }
	front(all[:api.MaxFront-1], slices.DeleteFunc(slices.Clone(l), fewer)...)
	none := append(slices.DeleteFunc(slices.Clone(l), few), of(300, 4000, 0, 0)...)
	front(all[:api.MaxFront], none...)
}

// P12.3: whatever is called, what was added and did not go is there: held against a plain list.
func TestAgainstList(t *testing.T) {
	x := rand.New(rand.NewSource(12))
	for range 200 {
		limit := 1 + x.Intn(30)
		r := made(t, limit)
		var model []api.Entry
		most := 0
		for range 100 {
			switch m := at(x.Intn(4), x.Intn(4)); x.Intn(20) {
			case 0:
				if l := r.Take(); !slices.Equal(l, sorted(model)) {
					t.Fatal(l, model)
				}
				model = nil
			case 1:
				f := []api.Moment{m, at(x.Intn(4), x.Intn(4))}
				before := len(model)
				model = slices.DeleteFunc(model, func(e api.Entry) bool { return !moment.Covers(f, e.At) })
				if n := r.Keep(f); n != before-len(model) {
					t.Fatal(f, n, before, len(model))
				}
			case 2:
				want := slices.DeleteFunc(sorted(model), func(e api.Entry) bool { return e.At != m })
				if l := r.At(m); !slices.Equal(l, want) {
					t.Fatal(m, l, want)
				}
			case 3:
				var moments []api.Moment
				for _, e := range model {
					moments = append(moments, e.At)
				}
				want, _ := moment.Front(moments)
				if f := r.Front(); !slices.Equal(f, want) {
					t.Fatal(f, want)
				}
			default:
				e := of(m.Epoch, m.Round, x.Intn(3), x.Intn(3))[0]
				want := api.OK
				if len(model) == limit {
					want = api.ErrFull
				} else {
					model = append(model, e)
				}
				if errno := r.Add(e); errno != want {
					t.Fatal(errno, want)
				}
			}
			most = max(most, len(model))
			counts(t, r, len(model), most)
			has(t, r, sorted(model)...)
		}
	}
}

// P12.2: of a nil Run.
func TestNil(t *testing.T) {
	for _, r := range []*run.Run{nil, {}} {
		for _, e := range of(0, 0, 0, 0, -1, 0, 0, 0) {
			if errno := r.Add(e); errno != api.ErrClosed {
				t.Error(errno)
			}
		}
		counts(t, r, 0, 0)
		has(t, r)
		if r.Limit() != 0 || len(r.Take()) != 0 || len(r.At(at(0, 0))) != 0 || r.Keep([]api.Moment{at(0, 0)}) != 0 || len(r.Front()) != 0 {
			t.Error("something of a run that was not made")
		}
	}
}

// Rule R3: answers are new memory, with what lies behind them; what is handed in stays as it is.
func TestMemory(t *testing.T) {
	l := of(1, 0, 0, 0, 1, 0, 0, 1, 2, 0, 0, 0, 3, 0, 0, 0, 3, 0, 0, 0)
	spoil := func(l []api.Entry) {
		for i := range l[:cap(l)] {
			l[:cap(l)][i] = api.Entry{At: at(9, 9)}
		}
	}
	r := made(t, 20, l...)
	front := r.Front()
	for i := range front[:cap(front)] {
		front[:cap(front)][i] = at(9, 9)
	}
	spoil(r.All())
	spoil(r.At(at(1, 0)))
	has(t, r, l...)
	f := []api.Moment{at(2, 0), at(1, 1), at(7, 7), at(8, 8)}
	if r.Keep(f[:2]) != 2 || !slices.Equal(f, []api.Moment{at(2, 0), at(1, 1), at(7, 7), at(8, 8)}) {
		t.Error(f)
	}
	f[0] = at(9, 9)
	has(t, r, l[2:]...)
	taken := r.Take()
	add(t, r, of(5, 5, 5, 5, 6, 6, 6, 6)...)
	if !slices.Equal(taken, l[2:]) {
		t.Error(taken)
	}
	spoil(taken)
	has(t, r, of(5, 5, 5, 5, 6, 6, 6, 6)...)
}
