package rec_test

import (
	"bytes"
	"cmp"
	"math"
	"slices"
	"testing"

	"oxbow/api"
	"oxbow/num"
	"oxbow/rec"
)

// of makes records of keys and values, in turns.
func of(n ...int) []api.Rec {
	var l []api.Rec
	for i := 0; i < len(n); i += 2 {
		l = append(l, api.Rec{Key: n[i], Val: n[i+1]})
	}
	return l
}

// many is n records that may be, the lesser ones behind.
func many(n int) []api.Rec {
	l := make([]api.Rec, n)
	for i := range l {
		l[i] = api.Rec{Key: (n - i) % 97, Val: n - i}
	}
	return l
}

// wrong are records that may not be: each number beyond each edge.
var wrong = of(-1, 0, 0, -1, -1, -1, api.MaxNum+1, 0, 0, api.MaxNum+1, math.MinInt, 0, 0, math.MinInt, math.MaxInt, 5, 5, math.MaxInt)

// edges are records that may be, in order.
var edges = of(0, 0, 0, 1, 0, api.MaxNum, 1, 0, 1, 239, 1, 240, 239, 7, 240, 0, 2287, 5, 2288, 5, 65535, 9, 65536, 9, api.MaxNum, 0, api.MaxNum, api.MaxNum)

// bags are all bags of at most three of four records, in each order.
func bags() [][]api.Rec {
	some := of(1, 1, 1, 2, 2, 0, 3, 1)
	all := [][]api.Rec{nil}
	for from := range 1 + 4 + 16 {
		for _, r := range some {
			all = append(all, append(slices.Clone(all[from]), r))
		}
	}
	return all
}

// often counts one by one, as the document says it.
func often(l []api.Rec, r api.Rec) int {
	n := 0
	for _, x := range l {
		if x.Key == r.Key && x.Val == r.Val {
			n++
		}
	}
	return n
}

// slowSort puts records in order by taking out the least one, again and again.
func slowSort(l []api.Rec) []api.Rec {
	left := slices.Clone(l)
	var out []api.Rec
	for len(left) > 0 {
		least := 0
		for i, r := range left {
			if r.Key < left[least].Key || r.Key == left[least].Key && r.Val < left[least].Val {
				least = i
			}
		}
		out = append(out, left[least])
		left = append(left[:least], left[least+1:]...)
	}
	return out
}

// refusals are what is done to one bag, each answer as how many things came of it, and the error.
var refusals = map[string]func(l []api.Rec) (int, api.Errno){
	"May":      func(l []api.Rec) (int, api.Errno) { return 0, rec.May(l) },
	"Sort":     func(l []api.Rec) (int, api.Errno) { x, e := rec.Sort(l); return len(x), e },
	"Distinct": func(l []api.Rec) (int, api.Errno) { x, e := rec.Distinct(l); return len(x), e },
	"Groups":   func(l []api.Rec) (int, api.Errno) { x, e := rec.Groups(l); return len(x), e },
	"Encode":   func(l []api.Rec) (int, api.Errno) { x, e := rec.Encode(l); return len(x), e },
	"Union":    func(l []api.Rec) (int, api.Errno) { x, e := rec.Union(l, nil); return len(x), e },
	"Union 2":  func(l []api.Rec) (int, api.Errno) { x, e := rec.Union(nil, l); return len(x), e },
	"Minus":    func(l []api.Rec) (int, api.Errno) { x, e := rec.Minus(l, nil); return len(x), e },
	"Minus 2":  func(l []api.Rec) (int, api.Errno) { x, e := rec.Minus(nil, l); return len(x), e },
}

// P3.1: Check.
func TestCheck(t *testing.T) {
	for _, r := range edges {
		if e := rec.Check(r); e != api.OK {
			t.Errorf("%v: %d", r, e)
		}
	}
	for _, r := range wrong {
		if e := rec.Check(r); e != api.ErrRec {
			t.Errorf("%v: %d", r, e)
		}
	}
}

// P3.1: what May refuses, and all that refuse likewise. A record that may not be comes ahead of too many ones.
func TestRefusals(t *testing.T) {
	for name, do := range refusals {
		for _, l := range [][]api.Rec{nil, {}, edges, many(api.MaxBag)} {
			if _, e := do(l); e != api.OK {
				t.Errorf("%s of %d records: %d", name, len(l), e)
			}
		}
		for _, n := range []int{api.MaxBag + 1, 3 * api.MaxBag} {
			if x, e := do(many(n)); e != api.ErrMany || x != 0 {
				t.Errorf("%s of %d records: %d, %d", name, n, x, e)
			}
		}
		for _, r := range wrong {
			for _, l := range [][]api.Rec{{r}, append(of(1, 2), r), append([]api.Rec{r}, edges...), append(many(api.MaxBag+5), r)} {
				if x, e := do(l); e != api.ErrRec || x != 0 {
					t.Errorf("%s of %d records with %v: %d, %d", name, len(l), r, x, e)
				}
			}
		}
	}
}

// P3.1: Union and Minus refuse the first bag ahead of the second one; Union both together, Minus not.
func TestRefusalsOfBoth(t *testing.T) {
	over, off := many(api.MaxBag+1), of(1, 1, -1, 0)
	for _, c := range []struct {
		a, b         []api.Rec
		union, minus api.Errno
	}{
		{over, off, api.ErrMany, api.ErrMany},
		{off, over, api.ErrRec, api.ErrRec},
		{over, edges, api.ErrMany, api.ErrMany},
		{edges, over, api.ErrMany, api.ErrMany},
		{edges, off, api.ErrRec, api.ErrRec},
		{many(api.MaxBag), off, api.ErrRec, api.ErrRec},
		{many(api.MaxBag), of(1, 1), api.ErrMany, api.OK},
		{of(1, 1), many(api.MaxBag), api.ErrMany, api.OK},
		{many(api.MaxBag / 2), many(api.MaxBag / 2), api.OK, api.OK},
		{many(api.MaxBag / 2), many(api.MaxBag/2 + 1), api.ErrMany, api.OK},
	} {
		if x, e := rec.Union(c.a, c.b); e != c.union || e != api.OK && len(x) != 0 {
			t.Errorf("Union of %d and %d: %d records, %d, want %d", len(c.a), len(c.b), len(x), e, c.union)
		}
		if x, e := rec.Minus(c.a, c.b); e != c.minus || e != api.OK && len(x) != 0 {
			t.Errorf("Minus of %d and %d: %d records, %d, want %d", len(c.a), len(c.b), len(x), e, c.minus)
		}
	}
}

// P3.1: Compare, also of records that may not be.
func TestCompare(t *testing.T) {
	for i, a := range edges {
		for j, b := range edges {
			if x := rec.Compare(a, b); x != cmp.Compare(i, j) {
				t.Errorf("%v and %v: %d", a, b, x)
			}
		}
	}
	for _, l := range [][]api.Rec{of(math.MinInt, 0, math.MaxInt, 0), of(0, math.MinInt, 0, math.MaxInt), of(-1, 5, 0, 0), of(5, -1, 5, 0), of(math.MinInt, math.MaxInt, math.MaxInt, math.MinInt)} {
		if rec.Compare(l[0], l[1]) != -1 || rec.Compare(l[1], l[0]) != 1 || rec.Compare(l[0], l[0]) != 0 {
			t.Errorf("%v", l)
		}
	}
}

// P3.1: Sort, Sorted.
func TestSort(t *testing.T) {
	lists := append(bags(), edges, many(500))
	backwards := slices.Clone(edges)
	slices.Reverse(backwards)
	for _, l := range append(lists, backwards) {
		want := slowSort(l)
		if x, e := rec.Sort(l); e != api.OK || !slices.Equal(x, want) {
			t.Errorf("%v: %v, %d", l, x, e)
		}
		if rec.Sorted(l) != slices.Equal(l, want) || !rec.Sorted(want) {
			t.Errorf("%v: sorted %v", l, rec.Sorted(l))
		}
	}
	for _, c := range []struct {
		l    []api.Rec
		want bool
	}{
		{nil, true},
		{[]api.Rec{}, true},
		{of(-5, 0), true},
		{of(1, 1, 1, 1), true},
		{of(1, 2, 1, 1), false},
		{of(2, 0, 1, 9), false},
		{of(1, 9, 2, 0), true},
		{of(1, 1, 2, 2, 3, 3, 3, 2), false},
		{of(math.MinInt, 0, 0, 0, math.MaxInt, 0), true},
		{of(0, 0, 0, math.MinInt), false},
		{slowSort(many(api.MaxBag + 9)), true},
	} {
		if rec.Sorted(c.l) != c.want {
			t.Errorf("%v: sorted %v", c.l, !c.want)
		}
	}
}

// P3.1: Union and Minus of all pairs of small bags; P3.3: what is taken from a union is the other part.
func TestUnionMinus(t *testing.T) {
	all := bags()
	for _, a := range all {
		for _, b := range all {
			u, e := rec.Union(a, b)
			if want := slowSort(append(slices.Clone(a), b...)); e != api.OK || !slices.Equal(u, want) {
				t.Fatalf("Union of %v and %v: %v, %d", a, b, u, e)
			}
			m, e := rec.Minus(a, b)
			if e != api.OK || !rec.Sorted(m) {
				t.Fatalf("Minus of %v and %v: %v, %d", a, b, m, e)
			}
			for _, r := range of(1, 1, 1, 2, 2, 0, 3, 1) {
				if often(m, r) != max(0, often(a, r)-often(b, r)) {
					t.Fatalf("Minus of %v and %v: %v", a, b, m)
				}
			}
			if x, e := rec.Minus(u, b); e != api.OK || !slices.Equal(x, slowSort(a)) {
				t.Fatalf("Minus of the union of %v and %v: %v, %d", a, b, x, e)
			}
			if x, e := rec.Minus(u, a); e != api.OK || !slices.Equal(x, slowSort(b)) {
				t.Fatalf("Minus of the union of %v and %v: %v, %d", a, b, x, e)
			}
		}
	}
}

// P3.3: also of a union that is full.
func TestMinusOfFullUnion(t *testing.T) {
	a, b := many(3000), many(api.MaxBag-3000)
	u, e := rec.Union(a, b)
	if e != api.OK || len(u) != api.MaxBag {
		t.Fatalf("%d records, %d", len(u), e)
	}
	if x, e := rec.Minus(u, b); e != api.OK || !slices.Equal(x, slowSort(a)) {
		t.Errorf("%d records, %d", len(x), e)
	}
}

// P3.1: the document's example, and what Minus does with what is not there.
func TestMinusExamples(t *testing.T) {
	for _, c := range []struct{ a, b, want []api.Rec }{
		{of(1, 1, 1, 1, 2, 2), of(1, 1), of(1, 1, 2, 2)},
		{of(2, 2, 1, 1, 1, 1), of(1, 1, 1, 1, 1, 1), of(2, 2)},
		{of(2, 2, 1, 1), nil, of(1, 1, 2, 2)},
		{of(2, 2, 1, 1), of(1, 2, 2, 1), of(1, 1, 2, 2)},
		{nil, of(1, 1), nil},
	} {
		if x, e := rec.Minus(c.a, c.b); e != api.OK || !slices.Equal(x, c.want) {
			t.Errorf("%v and %v: %v, %d", c.a, c.b, x, e)
		}
	}
}

// P3.1: Same, Count, also of records that may not be, and of more than a bag has.
func TestSameCount(t *testing.T) {
	all := append(bags(), of(-1, 0), of(0, -1), of(-1, 0, -1, 0), of(math.MinInt, math.MaxInt), of(1, 1, -1, 0), wrong)
	probes := append(of(1, 1, 1, 2, 2, 0, 3, 1, 4, 4), wrong...)
	for _, a := range all {
		for _, r := range probes {
			if n := rec.Count(a, r); n != often(a, r) {
				t.Errorf("%v in %v: %d", r, a, n)
			}
		}
		for _, b := range all {
			if want := slices.Equal(slowSort(a), slowSort(b)); rec.Same(a, b) != want {
				t.Errorf("Same of %v and %v: %v", a, b, !want)
			}
		}
	}
	if !rec.Same(nil, []api.Rec{}) || rec.Same(of(1, 1, 1, 1, 2, 2), of(1, 1, 2, 2, 2, 2)) || rec.Same(of(1, 1), of(1, 1, 1, 1)) || rec.Same(of(1, 2), of(2, 1)) {
		t.Error("Same")
	}
	l := append(many(2*api.MaxBag), of(-1, 0, 1, 1, 1, 1)...)
	turned := slices.Clone(l)
	slices.Reverse(turned)
	if !rec.Same(l, turned) || rec.Same(l, append(turned[1:], api.Rec{Key: 3, Val: 1})) || rec.Count(l, api.Rec{Key: 1, Val: 1}) != often(l, api.Rec{Key: 1, Val: 1}) {
		t.Error("of many records")
	}
}

// P3.1: Distinct.
func TestDistinct(t *testing.T) {
	for _, l := range append(bags(), edges, append(slices.Clone(edges), edges...), many(700)) {
		var want []api.Rec
		for _, r := range slowSort(l) {
			if often(want, r) == 0 {
				want = append(want, r)
			}
		}
		if x, e := rec.Distinct(l); e != api.OK || !slices.Equal(x, want) {
			t.Errorf("%v: %v, %d", l, x, e)
		}
	}
	if x, e := rec.Distinct(slices.Repeat(of(7, 7), api.MaxBag)); e != api.OK || !slices.Equal(x, of(7, 7)) {
		t.Errorf("a full bag of one record: %v, %d", x, e)
	}
	// Each once would be few enough, but they are no bag.
	if x, e := rec.Distinct(slices.Repeat(of(7, 7), api.MaxBag+1)); e != api.ErrMany || len(x) != 0 {
		t.Errorf("too many of one record: %v, %d", x, e)
	}
}

// P3.1: Groups.
func TestGroups(t *testing.T) {
	for _, l := range append(bags(), edges, many(700), many(api.MaxBag)) {
		groups, e := rec.Groups(l)
		if e != api.OK || !slices.Equal(slices.Concat(groups...), slowSort(l)) {
			t.Fatalf("%v: %v, %d", l, groups, e)
		}
		last := -1
		for _, g := range groups {
			if len(g) == 0 || g[0].Key <= last {
				t.Fatalf("%v: %v", l, groups)
			}
			last = g[0].Key
			for _, r := range g {
				if r.Key != last {
					t.Fatalf("%v: %v", l, groups)
				}
			}
		}
	}
	groups, _ := rec.Groups(of(2, 1, 1, 5, 2, 0, 1, 5))
	if len(groups) != 2 || !slices.Equal(groups[0], of(1, 5, 1, 5)) || !slices.Equal(groups[1], of(2, 0, 2, 1)) {
		t.Errorf("%v", groups)
	}
}

// P3.2: Put and Read; P3.3: the bytes of records stand in their order.
func TestPutRead(t *testing.T) {
	var was []byte
	for _, r := range edges {
		b, e := rec.Put(r)
		key, _ := num.Put(r.Key)
		val, _ := num.Put(r.Val)
		if e != api.OK || !bytes.Equal(b, append(key, val...)) {
			t.Errorf("Put(%v) = %v, %d", r, b, e)
		}
		if bytes.Compare(was, b) >= 0 {
			t.Errorf("%v stands behind %v", was, b)
		}
		was = b
		p := num.From(append(slices.Clone(b), 9))
		if x, e := rec.Read(p); e != api.OK || x != r || p.Bad() || p.Left() != 1 {
			t.Errorf("%v is read as %v, %d, %d bytes left", r, x, e, p.Left())
		}
		for i := range b {
			p := num.From(b[:i])
			if x, e := rec.Read(p); e != api.ErrCode || x != (api.Rec{}) || !p.Bad() {
				t.Errorf("%d bytes of %v are read as %v, %d", i, r, x, e)
			}
		}
	}
	for _, r := range wrong {
		if b, e := rec.Put(r); e != api.ErrRec || len(b) != 0 {
			t.Errorf("Put(%v) = %v, %d", r, b, e)
		}
	}
	if b, _ := rec.Put(api.Rec{Key: 3, Val: 2288}); !bytes.Equal(b, []byte{3, 248, 8, 240}) {
		t.Errorf("%v", b)
	}
}

// P3.3: of many pairs.
func TestBytesInOrder(t *testing.T) {
	var l []api.Rec
	numbers := []int{0, 1, 238, 239, 240, 241, 495, 496, 2287, 2288, 65535, 65536, api.MaxNum}
	for _, key := range numbers {
		for _, val := range numbers {
			l = append(l, api.Rec{Key: key, Val: val})
		}
	}
	for _, a := range l {
		for _, b := range l {
			x, _ := rec.Put(a)
			y, _ := rec.Put(b)
			if bytes.Compare(x, y) != rec.Compare(a, b) {
				t.Errorf("%v and %v: %v and %v", a, b, x, y)
			}
		}
	}
}

// P3.2: Read of what is no record: a bad reader comes ahead of a record that may not be.
func TestReadWrong(t *testing.T) {
	great, _ := num.Put(api.MaxNum + 1)
	greatest, _ := num.Put(math.MaxInt)
	for _, c := range []struct {
		b    []byte
		want api.Errno
	}{
		{nil, api.ErrCode},
		{[]byte{255, 1}, api.ErrCode},
		{[]byte{1, 255}, api.ErrCode},
		{[]byte{248, 0, 5, 1}, api.ErrCode},
		{great, api.ErrCode},
		{append(slices.Clone(great), 255), api.ErrCode},
		{append(slices.Clone(great), 1), api.ErrRec},
		{append([]byte{1}, great...), api.ErrRec},
		{append(slices.Clone(great), great...), api.ErrRec},
		{append(slices.Clone(greatest), 0), api.ErrRec},
		{append([]byte{0}, greatest...), api.ErrRec},
	} {
		p := num.From(c.b)
		if x, e := rec.Read(p); e != c.want || x != (api.Rec{}) || e == api.ErrCode && !p.Bad() {
			t.Errorf("%v: %v, %d, want %d", c.b, x, e, c.want)
		}
	}
	p := num.From([]byte{1, 2, 3, 4})
	p.Fixed(0)
	if x, e := rec.Read(p); e != api.ErrCode || x != (api.Rec{}) {
		t.Errorf("of a bad reader: %v, %d", x, e)
	}
	if x, e := rec.Read(nil); e != api.ErrCode || x != (api.Rec{}) {
		t.Errorf("of no reader: %v, %d", x, e)
	}
}

// P3.2: records are read one behind the other.
func TestReadMany(t *testing.T) {
	var b []byte
	for _, r := range edges {
		x, _ := rec.Put(r)
		b = append(b, x...)
	}
	p := num.From(b)
	for _, r := range edges {
		if x, e := rec.Read(p); e != api.OK || x != r {
			t.Errorf("%v is read as %v, %d", r, x, e)
		}
	}
	if p.Done() != api.OK {
		t.Error("something is left")
	}
}

// P3.2: Encode and Decode.
func TestEncodeDecode(t *testing.T) {
	for _, l := range append(bags(), edges, many(239), many(240), many(700), many(api.MaxBag)) {
		b, e := rec.Encode(l)
		sorted := slowSort(l)
		want, _ := num.Put(len(l))
		for _, r := range sorted {
			x, _ := rec.Put(r)
			want = append(want, x...)
		}
		if e != api.OK || !bytes.Equal(b, want) {
			t.Fatalf("Encode of %v: %v, %d", l, b, e)
		}
		if x, e := rec.Decode(b); e != api.OK || !slices.Equal(x, sorted) {
			t.Fatalf("Decode of %v: %v, %d", b, x, e)
		}
		if x, e := rec.Decode(append(b, 0)); e != api.ErrCode || len(x) != 0 {
			t.Fatalf("Decode of %v and a byte: %v, %d", b, x, e)
		}
		if len(l) > 300 {
			continue
		}
		for i := range b {
			if x, e := rec.Decode(b[:i]); e != api.ErrCode || len(x) != 0 {
				t.Fatalf("Decode of %d bytes of %v: %v, %d", i, b, x, e)
			}
		}
	}
}

// P3.2: Decode of what is no bag's.
func TestDecodeWrong(t *testing.T) {
	great, _ := num.Put(api.MaxNum + 1)
	greatest, _ := num.Put(math.MaxInt)
	over, _ := num.Put(api.MaxBag + 1)
	for range api.MaxBag + 1 {
		over = append(over, 1, 1)
	}
	for _, b := range [][]byte{
		nil,
		{},
		{255},
		{1},
		{1, 1},
		{0, 0},
		{1, 1, 1, 1},
		{2, 1, 1},
		{240, 0},
		{248, 0, 1, 1, 1},
		{2, 1, 2, 1, 1},
		{2, 2, 0, 1, 0},
		{3, 1, 1, 2, 2, 2, 1},
		{1, 1, 255},
		{1, 248, 0, 5, 1},
		append([]byte{1, 1}, great...),
		append(append([]byte{1}, great...), 1),
		greatest,
		append(slices.Clone(greatest), 1, 1),
		over,
	} {
		if x, e := rec.Decode(b); e != api.ErrCode || len(x) != 0 {
			t.Errorf("%v: %v, %d", b, x, e)
		}
	}
	if x, e := rec.Decode([]byte{0}); e != api.OK || len(x) != 0 {
		t.Errorf("no records: %v, %d", x, e)
	}
	if x, e := rec.Decode([]byte{2, 1, 1, 1, 1}); e != api.OK || !slices.Equal(x, of(1, 1, 1, 1)) {
		t.Errorf("one record twice: %v, %d", x, e)
	}
}

// P3.2: of all short texts of some bytes, just those that Encode makes are decoded.
func TestDecodeAll(t *testing.T) {
	letters := []byte{0, 1, 2, 239, 240, 248, 255}
	var try func(b []byte, more int)
	try = func(b []byte, more int) {
		x, e := rec.Decode(b)
		if e == api.OK {
			if again, _ := rec.Encode(x); !bytes.Equal(again, b) {
				t.Fatalf("%v is read as %v", b, x)
			}
		} else if e != api.ErrCode || len(x) != 0 {
			t.Fatalf("%v: %v, %d", b, x, e)
		}
		if more == 0 {
			return
		}
		for _, c := range letters {
			try(append(slices.Clone(b), c), more-1)
		}
	}
	try(nil, 6)
}

// R3: what is handed in, and the room behind it, is not changed.
func TestArgumentsStay(t *testing.T) {
	room := append(of(3, 1, 1, 2, 3, 1, 1, 1), of(9, 9, 0, 0, 5, 5, 4, 4, 3, 3)...)
	was := slices.Clone(room)
	a, b := room[:4], room[6:8] // what Union laid behind a, or b, would not be what stands there
	for _, do := range refusals {
		do(a)
	}
	rec.Union(a, b)
	rec.Union(b, a[:1])
	rec.Minus(a, b)
	rec.Same(a, b)
	rec.Sorted(a)
	rec.Count(a, b[0])
	if !slices.Equal(room, was) {
		t.Errorf("%v", room)
	}
	bytesRoom := []byte{2, 1, 1, 2, 2, 7, 7}
	rec.Decode(bytesRoom[:5])
	if !bytes.Equal(bytesRoom, []byte{2, 1, 1, 2, 2, 7, 7}) {
		t.Errorf("%v", bytesRoom)
	}
}

// R3: answers are new memory, their spare room too: whoever writes there changes neither arguments nor other answers.
func TestAnswersAreNew(t *testing.T) {
	a, b := of(1, 1, 1, 2, 2, 1), of(3, 1)
	encoded := []byte{3, 1, 1, 1, 2, 2, 1}
	for name, answer := range map[string]func() []api.Rec{
		"Sort":     func() []api.Rec { x, _ := rec.Sort(a); return x },
		"Union":    func() []api.Rec { x, _ := rec.Union(a, b); return x },
		"Union 2":  func() []api.Rec { x, _ := rec.Union(a, nil); return x },
		"Union 3":  func() []api.Rec { x, _ := rec.Union(nil, a); return x },
		"Minus":    func() []api.Rec { x, _ := rec.Minus(a, b); return x },
		"Minus 2":  func() []api.Rec { x, _ := rec.Minus(a, nil); return x },
		"Distinct": func() []api.Rec { x, _ := rec.Distinct(a); return x },
		"Groups":   func() []api.Rec { x, _ := rec.Groups(a); return x[0] },
		"Decode":   func() []api.Rec { x, _ := rec.Decode(encoded); return x },
	} {
		first := answer()
		want := slices.Clone(first)
		for i := range first[:cap(first)] {
			first[:cap(first)][i] = api.Rec{Key: 77, Val: 77}
		}
		if again := answer(); !slices.Equal(again, want) || !slices.Equal(a, of(1, 1, 1, 2, 2, 1)) || !slices.Equal(b, of(3, 1)) {
			t.Errorf("%s: %v, want %v", name, again, want)
		}
	}
	for name, answer := range map[string]func() []byte{
		"Put":    func() []byte { x, _ := rec.Put(a[1]); return x },
		"Encode": func() []byte { x, _ := rec.Encode(a); return x },
	} {
		first := answer()
		want := slices.Clone(first)
		for i := range first[:cap(first)] {
			first[:cap(first)][i] = 99
		}
		if again := answer(); !bytes.Equal(again, want) {
			t.Errorf("%s: %v, want %v", name, again, want)
		}
	}
}

// R3: groups share nothing with one another.
func TestGroupsApart(t *testing.T) {
	l := of(1, 1, 1, 2, 2, 1, 3, 1, 3, 2)
	want, _ := rec.Groups(l)
	groups, _ := rec.Groups(l)
	for k, g := range groups {
		for i := range g[:cap(g)] {
			g[:cap(g)][i] = api.Rec{Key: 77, Val: 77}
		}
		for j := k + 1; j < len(groups); j++ {
			if !slices.Equal(groups[j], want[j]) {
				t.Errorf("group %d wrote into group %d: %v", k, j, groups[j])
			}
		}
	}
}
