package fn_test

import (
	"math"
	"math/rand"
	"slices"
	"testing"

	"oxbow/api"
	"oxbow/fn"
	"oxbow/rec"
)

// The families, as Family tells them.
const (
	maps    = 1
	tests   = 2
	spreads = 3
	folds   = 4
	pairs   = 5
)

const size = api.MaxNum + 1

// kind is a kind's family, and which numbers its functions may have.
type kind struct {
	kind   int
	family int
	least  int
	most   int
}

func kinds() []kind {
	return []kind{
		{api.MapAdd, maps, 0, api.MaxNum},
		{api.MapTimes, maps, 0, api.MaxNum},
		{api.MapSwap, maps, 0, 0},
		{api.MapKeyMod, maps, 1, api.MaxNum},
		{api.MapValMod, maps, 1, api.MaxNum},
		{api.MapValKey, maps, 1, api.MaxNum},
		{api.MapLeast, maps, 0, api.MaxNum},
		{api.MapMost, maps, 0, api.MaxNum},
		{api.TestLess, tests, 0, api.MaxNum},
		{api.TestMore, tests, 0, api.MaxNum},
		{api.TestKey, tests, 0, api.MaxNum},
		{api.TestOdd, tests, 0, 0},
		{api.SpreadCopies, spreads, 0, api.MaxSpread},
		{api.SpreadSteps, spreads, 0, api.MaxSpread},
		{api.SpreadBoth, spreads, 0, 0},
		{api.FoldSum, folds, 0, 0},
		{api.FoldLeast, folds, 0, 0},
		{api.FoldMost, folds, 0, 0},
		{api.FoldCount, folds, 0, 0},
		{api.PairLeft, pairs, 0, 0},
		{api.PairRight, pairs, 0, 0},
		{api.PairSum, pairs, 0, 0},
		{api.PairCross, pairs, 0, 0},
	}
}

// fit is functions that may be, with the family of each.
func fit() map[api.Fn]int {
	l := map[api.Fn]int{}
	for _, k := range kinds() {
		for _, a := range []int{k.least, k.least + 1, 7, k.most - 1, k.most} {
			if a >= k.least && a <= k.most {
				l[api.Fn{Kind: k.kind, A: a}] = k.family
			}
		}
	}
	return l
}

// unfit is functions that may not be.
func unfit() []api.Fn {
	var l []api.Fn
	for _, n := range []int{0, -1, 24, 25, 160, math.MaxInt, math.MinInt} {
		l = append(l, api.Fn{Kind: n}, api.Fn{Kind: n, A: 1})
	}
	for _, k := range kinds() {
		for _, a := range []int{k.least - 1, -1, math.MinInt, k.most + 1, api.MaxNum + 1, math.MaxInt} {
			l = append(l, api.Fn{Kind: k.kind, A: a})
		}
	}
	return l
}

func r(key, val int) api.Rec {
	return api.Rec{Key: key, Val: val}
}

// of makes records of keys and values, in turns.
func of(n ...int) []api.Rec {
	var l []api.Rec
	for i := 0; i < len(n); i += 2 {
		l = append(l, r(n[i], n[i+1]))
	}
	return l
}

// P16.1: which functions may be, and of which family each is.
func TestCheck(t *testing.T) {
	for f, family := range fit() {
		if errno := fn.Check(f); errno != api.OK {
			t.Error(f, errno)
		}
		if n := fn.Family(f); n != family {
			t.Error(f, n, family)
		}
	}
	for _, f := range unfit() {
		if errno := fn.Check(f); errno != api.ErrFn {
			t.Error(f, errno)
		}
		if n := fn.Family(f); n != 0 {
			t.Error(f, n)
		}
	}
}

// refusals asks of all five calls which of them refuse a function with records that may be, and that they tell nothing else then.
func refusals(t *testing.T, f api.Fn, family int) {
	t.Helper()
	a := r(3, 4)
	m, e1 := fn.Map(f, a)
	is, e2 := fn.Test(f, a)
	l, e3 := fn.Spread(f, a)
	one, e4 := fn.Fold(f, []api.Rec{a})
	two, e5 := fn.Pair(f, a, a)
	for i, errno := range []api.Errno{e1, e2, e3, e4, e5} {
		want := api.ErrFn
		if i+1 == family {
			want = api.OK
		}
		if errno != want {
			t.Error(f, i+1, errno, want)
		}
	}
	none := api.Rec{}
	if e1 != api.OK && m != none || e2 != api.OK && is || e3 != api.OK && l != nil || e4 != api.OK && one != none || e5 != api.OK && two != none {
		t.Error(f, m, is, l, one, two)
	}
}

// P16.2: functions that may not be, or are of another family.
func TestFamilies(t *testing.T) {
	for f, family := range fit() {
		refusals(t, f, family)
	}
	for _, f := range unfit() {
		refusals(t, f, 0)
	}
}

// P16.2: records that may not be; a function that may not be is told of first.
func TestRecords(t *testing.T) {
	for _, bad := range of(-1, 0, 0, -1, size, 0, 0, size, math.MinInt, 0, 0, math.MaxInt) {
		for f, family := range fit() {
			records(t, f, family, bad, api.ErrRec)
		}
		for _, f := range unfit() {
			for family := range pairs {
				records(t, f, 1+family, bad, api.ErrFn)
			}
		}
	}
}

func records(t *testing.T, f api.Fn, family int, bad api.Rec, want api.Errno) {
	t.Helper()
	var got []api.Errno
	var one api.Rec
	note := func(r api.Rec, errno api.Errno) {
		got = append(got, errno)
		one.Key |= r.Key | r.Val
	}
	switch family {
	case maps:
		note(fn.Map(f, bad))
	case tests:
		is, errno := fn.Test(f, bad)
		if is {
			t.Error(f, bad)
		}
		got = append(got, errno)
	case spreads:
		l, errno := fn.Spread(f, bad)
		if l != nil {
			t.Error(f, bad, l)
		}
		got = append(got, errno)
	case folds:
		note(fn.Fold(f, []api.Rec{bad}))
		note(fn.Fold(f, []api.Rec{r(3, 4), r(3, 4), bad}))
		note(fn.Fold(f, []api.Rec{r(3, 4), r(5, 4), bad})) // ahead of the keys
	case pairs:
		note(fn.Pair(f, bad, bad))
		note(fn.Pair(f, bad, r(3, 4)))
		note(fn.Pair(f, r(3, 4), bad))
	}
	if slices.ContainsFunc(got, func(errno api.Errno) bool { return errno != want }) || one.Key != 0 {
		t.Error(f, bad, got, want, one)
	}
}

// P16.2: what a Map makes.
func TestMap(t *testing.T) {
	const top = api.MaxNum
	for _, c := range []struct {
		kind, a    int
		from, made api.Rec
	}{
		{api.MapAdd, 5, r(3, 4), r(3, 9)},
		{api.MapAdd, 0, r(3, 4), r(3, 4)},
		{api.MapAdd, 1, r(top, top), r(top, 0)},
		{api.MapAdd, top, r(0, top), r(0, top-1)},
		{api.MapTimes, 5, r(3, 4), r(3, 20)},
		{api.MapTimes, 0, r(3, 4), r(3, 0)},
		{api.MapTimes, top, r(3, top), r(3, 1)},
		{api.MapTimes, 1 << 10, r(3, 1<<10), r(3, 0)},
		{api.MapTimes, 1 << 10, r(3, 1<<10+1), r(3, 1<<10)},
		{api.MapSwap, 0, r(3, 4), r(4, 3)},
		{api.MapSwap, 0, r(top, 0), r(0, top)},
		{api.MapKeyMod, 5, r(14, 19), r(4, 19)},
		{api.MapKeyMod, 1, r(14, 19), r(0, 19)},
		{api.MapKeyMod, top, r(top, 19), r(0, 19)},
		{api.MapKeyMod, top, r(top-1, 19), r(top-1, 19)},
		{api.MapValMod, 5, r(14, 18), r(14, 3)},
		{api.MapValMod, 1, r(14, 18), r(14, 0)},
		{api.MapValKey, 5, r(14, 18), r(3, 18)},
		{api.MapValKey, 1, r(14, 18), r(18, 18)},
		{api.MapValKey, 19, r(14, 18), r(0, 18)},
		{api.MapLeast, 5, r(3, 4), r(3, 4)},
		{api.MapLeast, 5, r(3, 6), r(3, 5)},
		{api.MapLeast, 0, r(3, 6), r(3, 0)},
		{api.MapMost, 5, r(3, 4), r(3, 5)},
		{api.MapMost, 5, r(3, 6), r(3, 6)},
		{api.MapMost, top, r(3, 6), r(3, top)},
	} {
		if made, errno := fn.Map(api.Fn{Kind: c.kind, A: c.a}, c.from); made != c.made || errno != api.OK {
			t.Error(c, made, errno)
		}
	}
}

// P16.2: what a Test lets through.
func TestTest(t *testing.T) {
	for _, c := range []struct {
		kind, a int
		from    api.Rec
		is      bool
	}{
		{api.TestLess, 5, r(9, 4), true},
		{api.TestLess, 5, r(0, 5), false},
		{api.TestLess, 5, r(0, 6), false},
		{api.TestLess, 0, r(0, 0), false},
		{api.TestMore, 5, r(0, 6), true},
		{api.TestMore, 5, r(9, 5), false},
		{api.TestMore, 5, r(9, 4), false},
		{api.TestMore, api.MaxNum, r(0, api.MaxNum), false},
		{api.TestKey, 5, r(5, 6), true},
		{api.TestKey, 5, r(6, 5), false},
		{api.TestKey, 0, r(0, 5), true},
		{api.TestOdd, 0, r(2, 3), true},
		{api.TestOdd, 0, r(3, 2), false},
		{api.TestOdd, 0, r(3, 0), false},
		{api.TestOdd, 0, r(0, api.MaxNum), true},
	} {
		if is, errno := fn.Test(api.Fn{Kind: c.kind, A: c.a}, c.from); is != c.is || errno != api.OK {
			t.Error(c, is, errno)
		}
	}
}

// P16.2: what a Spread makes, in the order that the document says.
func TestSpread(t *testing.T) {
	const top = api.MaxNum
	for _, c := range []struct {
		kind, a int
		from    api.Rec
		made    []api.Rec
	}{
		{api.SpreadCopies, 0, r(3, 4), nil},
		{api.SpreadCopies, 1, r(3, 4), of(3, 4)},
		{api.SpreadCopies, 3, r(3, 4), of(3, 4, 3, 4, 3, 4)},
		{api.SpreadCopies, 8, r(3, top), slices.Repeat(of(3, top), 8)},
		{api.SpreadSteps, 0, r(3, 4), nil},
		{api.SpreadSteps, 1, r(3, 4), of(3, 4)},
		{api.SpreadSteps, 3, r(3, 4), of(3, 4, 3, 5, 3, 6)},
		{api.SpreadSteps, 4, r(3, top-1), of(3, top-1, 3, top, 3, 0, 3, 1)},
		{api.SpreadSteps, 8, r(0, 0), of(0, 0, 0, 1, 0, 2, 0, 3, 0, 4, 0, 5, 0, 6, 0, 7)},
		{api.SpreadBoth, 0, r(3, 4), of(3, 4, 4, 3)},
		{api.SpreadBoth, 0, r(4, 3), of(4, 3, 3, 4)},
		{api.SpreadBoth, 0, r(5, 5), of(5, 5, 5, 5)},
	} {
		if made, errno := fn.Spread(api.Fn{Kind: c.kind, A: c.a}, c.from); !slices.Equal(made, c.made) || errno != api.OK {
			t.Error(c, made, errno)
		}
	}
}

// P16.2: what a Fold makes; example 1.
func TestFold(t *testing.T) {
	const top = api.MaxNum
	for _, c := range []struct {
		l                       []api.Rec
		key                     int
		sum, least, most, count int
	}{
		{of(3, 4, 3, 5), 3, 9, 4, 5, 2},
		{of(3, 5, 3, 4), 3, 9, 4, 5, 2},
		{of(7, 0), 7, 0, 0, 0, 1},
		{of(7, top), 7, top, top, top, 1},
		{of(7, top, 7, 1), 7, 0, 1, top, 2},
		{of(7, top, 7, top, 7, top), 7, top - 2, top, top, 3},
		{of(0, 6, 0, 2, 0, 2, 0, 9), 0, 19, 2, 9, 4},
		{slices.Repeat(of(1, 2), api.MaxBag+1), 1, 2 * (api.MaxBag + 1), 2, 2, api.MaxBag + 1},
		{slices.Repeat(of(1, 1), size+2), 1, 2, 1, 1, 2},
	} {
		for kind, val := range map[int]int{api.FoldSum: c.sum, api.FoldLeast: c.least, api.FoldMost: c.most, api.FoldCount: c.count} {
			if one, errno := fn.Fold(api.Fn{Kind: kind}, c.l); one != r(c.key, val) || errno != api.OK {
				t.Error(kind, len(c.l), one, errno, val)
			}
		}
	}
}

// P16.2: no records, or ones of more than one key.
func TestKeys(t *testing.T) {
	for kind := api.FoldSum; kind <= api.FoldCount; kind++ {
		for _, l := range [][]api.Rec{nil, {}, of(3, 4, 4, 4), of(3, 4, 3, 4, 2, 4), of(0, 3, 3, 0, 3, 0)} {
			if one, errno := fn.Fold(api.Fn{Kind: kind}, l); one != (api.Rec{}) || errno != api.ErrArg {
				t.Error(kind, l, one, errno)
			}
		}
	}
	for kind := api.PairLeft; kind <= api.PairCross; kind++ {
		if one, errno := fn.Pair(api.Fn{Kind: kind}, r(3, 4), r(4, 4)); one != (api.Rec{}) || errno != api.ErrArg {
			t.Error(kind, one, errno)
		}
	}
}

// P16.2: what a Pair makes.
func TestPair(t *testing.T) {
	const top = api.MaxNum
	for _, c := range []struct {
		kind       int
		a, b, made api.Rec
	}{
		{api.PairLeft, r(3, 4), r(3, 5), r(3, 4)},
		{api.PairRight, r(3, 4), r(3, 5), r(3, 5)},
		{api.PairSum, r(3, 4), r(3, 5), r(3, 9)},
		{api.PairSum, r(3, top), r(3, top), r(3, top-1)},
		{api.PairSum, r(3, top), r(3, 1), r(3, 0)},
		{api.PairCross, r(3, 4), r(3, 5), r(4, 5)},
		{api.PairCross, r(3, 0), r(3, top), r(0, top)},
	} {
		if made, errno := fn.Pair(api.Fn{Kind: c.kind}, c.a, c.b); made != c.made || errno != api.OK {
			t.Error(c, made, errno)
		}
	}
}

// edge is a number, often one at an end.
func edge(rnd *rand.Rand, least, most int) int {
	switch rnd.Intn(4) {
	case 0:
		return least
	case 1:
		return most
	}
	return least + rnd.Intn(most-least+1)
}

// P16.3: what comes of records that may be may be, and a fold does not hang on their order.
func TestMay(t *testing.T) {
	rnd := rand.New(rand.NewSource(16))
	for range 2000 {
		for _, k := range kinds() {
			f := api.Fn{Kind: k.kind, A: edge(rnd, k.least, k.most)}
			l := of(edge(rnd, 0, api.MaxNum), edge(rnd, 0, api.MaxNum))
			for range rnd.Intn(5) {
				l = append(l, r(l[0].Key, edge(rnd, 0, api.MaxNum)))
			}
			made, errno := all(f, k.family, l)
			if errno != api.OK || rec.May(made) != api.OK {
				t.Fatal(f, l, made, errno)
			}
			if k.family == folds {
				rnd.Shuffle(len(l), func(i, j int) { l[i], l[j] = l[j], l[i] })
				if other, _ := all(f, k.family, l); !slices.Equal(made, other) {
					t.Fatal(f, l, made, other)
				}
			}
		}
	}
}

// all is what comes of records by a function.
func all(f api.Fn, family int, l []api.Rec) ([]api.Rec, api.Errno) {
	switch family {
	case maps:
		one, errno := fn.Map(f, l[0])
		return []api.Rec{one}, errno
	case tests:
		_, errno := fn.Test(f, l[0])
		return nil, errno
	case spreads:
		return fn.Spread(f, l[0])
	case folds:
		one, errno := fn.Fold(f, l)
		return []api.Rec{one}, errno
	}
	one, errno := fn.Pair(f, l[0], l[len(l)-1])
	return []api.Rec{one}, errno
}

// Rule R3: records that are handed in stay as they are, and those that are answered are new.
func TestMemory(t *testing.T) {
	l := append(make([]api.Rec, 0, 8), of(3, 9, 3, 1, 3, 4)...)
	copied := slices.Clone(l[:cap(l)])
	for kind := api.FoldSum; kind <= api.FoldCount; kind++ {
		fn.Fold(api.Fn{Kind: kind}, l)
	}
	if !slices.Equal(l[:cap(l)], copied) {
		t.Error(l)
	}
	for _, f := range []api.Fn{{Kind: api.SpreadCopies, A: 5}, {Kind: api.SpreadSteps, A: 5}, {Kind: api.SpreadBoth}} {
		one, _ := fn.Spread(f, r(3, 4))
		two, _ := fn.Spread(f, r(3, 4))
		clear(one[:cap(one)])
		if again, _ := fn.Spread(f, r(3, 4)); !slices.Equal(two, again) {
			t.Error(f, two, again)
		}
	}
}
