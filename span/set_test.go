package span_test

import (
	"math"
	"slices"
	"testing"

	"thatch/api"
	"thatch/span"
)

// few is how many sectors the sets have that are all gone through.
const few = 7

// bits is the set of the sectors whose bits are set.
func bits(b uint) []api.Span {
	var l []api.Span
	for at := range 64 {
		if b>>at&1 == 0 {
			continue
		}
		if len(l) > 0 && l[len(l)-1].At+l[len(l)-1].N == at {
			l[len(l)-1].N++
		} else {
			l = append(l, s(at, 1))
		}
	}
	return l
}

// bitsOf has a bit set for each sector of a span.
func bitsOf(x api.Span) uint {
	var b uint
	for at := x.At; at < x.At+x.N; at++ {
		b |= 1 << at
	}
	return b
}

// fewSpans are all spans of few sectors.
func fewSpans() []api.Span {
	var l []api.Span
	for at := range few + 1 {
		for n := range few + 1 - at {
			l = append(l, s(at, n))
		}
	}
	return l
}

// comb is n spans of one sector, with one missing between any two.
func comb(from, n int) []api.Span {
	l := make([]api.Span, n)
	for i := range l {
		l[i] = s(from+2*i, 1)
	}
	return l
}

func wantSet(t *testing.T, what string, got []api.Span, e api.Errno, want []api.Span) {
	t.Helper()
	if e != api.OK || !slices.Equal(got, want) {
		t.Errorf("%s: %v %d, not %v", what, got, e, want)
	}
}

func wantErr(t *testing.T, what string, got []api.Span, e, want api.Errno) {
	t.Helper()
	if e != want || len(got) != 0 {
		t.Errorf("%s: %d spans, %d, not %d", what, len(got), e, want)
	}
}

// noSets are lists that are no sets.
func noSets() [][]api.Span {
	l := [][]api.Span{
		{s(0, 0)}, {s(0, 3), s(5, 0)}, {s(5, 0), s(8, 3)}, {s(0, 3), s(3, 1)}, {s(0, 3), s(2, 4)}, {s(4, 2), s(0, 2)},
		{s(0, 1), s(0, 1)}, {s(0, 2), s(8, 2), s(4, 2)}, {s(0, 2), s(4, 2), s(6, 2)}, {s(0, 10), s(2, 3)}, comb(0, 4097),
		{s(0, 1), s(top, 0)},
	}
	for _, x := range broken() {
		l = append(l, []api.Span{x}, []api.Span{s(0, 1), x}, []api.Span{x, s(top-1, 1)})
	}
	return l
}

// P3.2: what is a set.
func TestIsSet(t *testing.T) {
	for b := range uint(1 << few) {
		if !span.IsSet(bits(b)) {
			t.Errorf("%v is none", bits(b))
		}
	}
	for _, l := range [][]api.Span{nil, {}, {s(0, top)}, {s(0, 1), s(2, top-2)}, {s(top-1, 1)}, comb(0, 4096), comb(top-8191, 4096)} {
		if !span.IsSet(l) {
			t.Errorf("%d spans are none", len(l))
		}
	}
	for _, l := range noSets() {
		if span.IsSet(l) {
			t.Errorf("%v is one", l)
		}
	}
}

// P3.2: the set of spans of any order, that are empty, touch, meet, or lie in one another.
func TestSet(t *testing.T) {
	all := fewSpans()
	for _, a := range all {
		for _, b := range all {
			for _, c := range all {
				got, e := span.Set([]api.Span{a, b, c})
				wantSet(t, "three spans", got, e, bits(bitsOf(a)|bitsOf(b)|bitsOf(c)))
			}
		}
	}
	for b := range uint(1 << few) {
		l := bits(b)
		got, e := span.Set(l)
		wantSet(t, "a set", got, e, l)
		back := slices.Clone(l)
		slices.Reverse(back)
		got, e = span.Set(append(back, l...))
		wantSet(t, "twice, and falling", got, e, l)
	}
	got, e := span.Set(nil)
	wantSet(t, "nothing", got, e, nil)
	got, e = span.Set([]api.Span{s(9, 0), s(0, 0), s(top, 0)})
	wantSet(t, "empty ones", got, e, nil)
	got, e = span.Set([]api.Span{s(top-1, 1), s(0, 1), s(1, top-2)})
	wantSet(t, "the greatest one", got, e, []api.Span{s(0, top)})
}

// P3.2: spans that may not be come ahead of too many.
func TestSetErrors(t *testing.T) {
	for _, x := range broken() {
		for _, l := range [][]api.Span{{x}, {s(0, 1), x}, {x, s(0, 1)}, append(comb(0, 4095), x), append(comb(0, 4096), x), append([]api.Span{x}, comb(0, 5000)...)} {
			got, e := span.Set(l)
			wantErr(t, "a span that may not be", got, e, api.ErrSpan)
		}
	}
	got, e := span.Set(comb(0, 4096))
	wantSet(t, "4096 spans", got, e, comb(0, 4096))
	got, e = span.Set(comb(0, 4097))
	wantErr(t, "4097 spans", got, e, api.ErrLong)
	got, e = span.Set(make([]api.Span, 4096))
	wantSet(t, "4096 empty ones", got, e, nil)
	got, e = span.Set(make([]api.Span, 4097))
	wantErr(t, "4097 empty ones", got, e, api.ErrLong)
	same := slices.Repeat([]api.Span{s(5, 5)}, 4097)
	got, e = span.Set(same)
	wantErr(t, "4097 times the same", got, e, api.ErrLong)
	got, e = span.Set(same[1:])
	wantSet(t, "4096 times the same", got, e, same[:1])
}

// P3.2, P3.4: one span added, dropped, and gaps, held against single sectors.
func TestAddDropGaps(t *testing.T) {
	for b := range uint(1 << few) {
		l := bits(b)
		for _, x := range fewSpans() {
			more, e := span.Add(l, x)
			wantSet(t, "Add", more, e, bits(b|bitsOf(x)))
			less, e := span.Drop(l, x)
			wantSet(t, "Drop", less, e, bits(b&^bitsOf(x)))
			gaps, e := span.Gaps(l, x)
			wantSet(t, "Gaps", gaps, e, bits(bitsOf(x)&^b))
			gone, e := span.Drop(more, x)
			wantSet(t, "added and dropped", gone, e, less)
			rest, e := span.Both(gone, []api.Span{s(0, few)})
			wantSet(t, "what is left", rest, e, less)
		}
	}
}

// P3.2, P3.4: what two sets have in common.
func TestBoth(t *testing.T) {
	for b := range uint(1 << few) {
		for c := range uint(1 << few) {
			got, e := span.Both(bits(b), bits(c))
			wantSet(t, "Both", got, e, bits(b&c))
		}
		gaps, _ := span.Gaps(bits(b), s(0, few))
		got, e := span.Both(bits(b), gaps)
		wantSet(t, "a set and its gaps", got, e, nil)
		got, e = span.Set(append(gaps, bits(b)...))
		wantSet(t, "a set with its gaps", got, e, []api.Span{s(0, few)})
		if span.Total(bits(b))+span.Total(gaps) != few {
			t.Errorf("%v and %v are not all", bits(b), gaps)
		}
	}
}

// P3.2: great spans.
func TestGreat(t *testing.T) {
	all := []api.Span{s(0, top)}
	ends := []api.Span{s(0, 1), s(top-1, 1)}
	got, e := span.Add(ends, s(1, top-2))
	wantSet(t, "Add", got, e, all)
	got, e = span.Add(nil, s(0, top))
	wantSet(t, "Add", got, e, all)
	got, e = span.Add(ends, s(top, 0))
	wantSet(t, "Add", got, e, ends)
	got, e = span.Drop(all, s(1, top-2))
	wantSet(t, "Drop", got, e, ends)
	got, e = span.Drop(all, s(0, top))
	wantSet(t, "Drop", got, e, nil)
	got, e = span.Gaps(nil, s(0, top))
	wantSet(t, "Gaps", got, e, all)
	got, e = span.Gaps(ends, s(0, top))
	wantSet(t, "Gaps", got, e, []api.Span{s(1, top-2)})
	got, e = span.Both(all, ends)
	wantSet(t, "Both", got, e, ends)
}

// wantErrSpan wants ErrSpan of all calls with a set and a span.
func wantErrSpan(t *testing.T, l []api.Span, x api.Span) {
	t.Helper()
	got, e := span.Add(l, x)
	wantErr(t, "Add", got, e, api.ErrSpan)
	got, e = span.Drop(l, x)
	wantErr(t, "Drop", got, e, api.ErrSpan)
	got, e = span.Gaps(l, x)
	wantErr(t, "Gaps", got, e, api.ErrSpan)
}

// P3.2: lists that are no sets, and spans that may not be.
func TestSetsBroken(t *testing.T) {
	for _, l := range noSets() {
		for _, x := range []api.Span{s(0, 0), s(0, 5), s(top, 0), s(-1, 1)} {
			wantErrSpan(t, l, x)
		}
		for _, m := range [][]api.Span{nil, {s(0, top)}, l} {
			got, e := span.Both(l, m)
			wantErr(t, "Both", got, e, api.ErrSpan)
			got, e = span.Both(m, l)
			wantErr(t, "Both", got, e, api.ErrSpan)
		}
	}
	for _, x := range broken() {
		for _, l := range [][]api.Span{nil, {s(0, top)}, comb(0, 4096)} {
			wantErrSpan(t, l, x)
		}
	}
}

// P3.2: 4096 spans, and one more.
func TestSetsMany(t *testing.T) {
	full, less := comb(0, 4096), comb(0, 4095)
	got, e := span.Add(less, s(8190, 1))
	wantSet(t, "the last one", got, e, full)
	got, e = span.Add(full, s(8192, 1))
	wantErr(t, "one more", got, e, api.ErrLong)
	got, e = span.Add(comb(3, 4096), s(0, 2))
	wantErr(t, "one more ahead", got, e, api.ErrLong)
	got, e = span.Add(full, s(8191, 1))
	wantSet(t, "one that touches", got, e, append(comb(0, 4095), s(8190, 2)))
	got, e = span.Add(full, s(3, 1))
	wantSet(t, "one that fills a gap", got, e, slices.Concat(comb(0, 1), []api.Span{s(2, 3)}, comb(6, 4093)))
	got, e = span.Add(full, s(9000, 0))
	wantSet(t, "an empty one", got, e, full)

	wide := append(comb(0, 4095), s(8190, 3))
	got, e = span.Drop(wide, s(8191, 1))
	wantErr(t, "one in two", got, e, api.ErrLong)
	got, e = span.Drop(wide, s(8192, 1))
	wantSet(t, "the end", got, e, append(comb(0, 4095), s(8190, 2)))
	got, e = span.Drop(wide[1:], s(8191, 1))
	wantSet(t, "4096", got, e, append(comb(2, 4095), s(8192, 1)))

	got, e = span.Gaps(full, s(0, 8191))
	wantSet(t, "4095 gaps", got, e, comb(1, 4095))
	got, e = span.Gaps(full, s(0, 8192))
	wantSet(t, "4096 gaps", got, e, comb(1, 4096))
	got, e = span.Gaps(comb(1, 4096), s(0, 8193))
	wantErr(t, "4097 gaps", got, e, api.ErrLong)
}

// P3.2: two sets that have more in common than a set may have.
func TestBothMany(t *testing.T) {
	// Each span of the first one has two of the other.
	wide := make([]api.Span, 2049)
	for i := range wide {
		wide[i] = s(8*i, 7)
	}
	teeth := make([]api.Span, 4096)
	for i := range teeth {
		teeth[i] = s(4*i, 2)
	}
	got, e := span.Both(wide, teeth)
	wantSet(t, "4096 in common", got, e, teeth)
	teeth = append(teeth, s(16384, 1))[1:]
	got, e = span.Both(wide, teeth)
	wantSet(t, "4096 in common", got, e, teeth)
	// Each gap of either set is one of the answer.
	a := make([]api.Span, 2050)
	b := make([]api.Span, 2049)
	for i := range a {
		a[i] = s(8*i, 7)
	}
	for i := range b {
		b[i] = s(8*i+4, 7)
	}
	got, e = span.Both(a, b[:2048])
	if e != api.OK || len(got) != 4096 {
		t.Errorf("4096 in common: %d, %d", len(got), e)
	}
	got, e = span.Both(a, b)
	wantErr(t, "4098 in common", got, e, api.ErrLong)
	got, e = span.Both(b, a[:2049])
	wantErr(t, "4097 in common", got, e, api.ErrLong)
}

// P3.3: how many sectors, and where one is.
func TestTotalFind(t *testing.T) {
	for b := range uint(1 << few) {
		l := bits(b)
		total := 0
		for at := -1; at <= few+1; at++ {
			want := -1
			for i, x := range l {
				if x.At <= at && at < x.At+x.N {
					want = i
					total++
				}
			}
			if got := span.Find(l, at); got != want {
				t.Errorf("%v: %d is at %d, not %d", l, at, got, want)
			}
		}
		if span.Total(l) != total {
			t.Errorf("%v: %d, not %d", l, span.Total(l), total)
		}
	}
	for _, l := range noSets() {
		if span.Total(l) != 0 {
			t.Errorf("%v: %d", l, span.Total(l))
		}
		for _, at := range []int{math.MinInt, -1, 0, 1, 4, 8, top - 1, top, math.MaxInt} {
			if span.Find(l, at) != -1 {
				t.Errorf("%v: %d is found", l, at)
			}
		}
	}
	full := comb(0, 4096)
	if span.Total(full) != 4096 || span.Find(full, 8190) != 4095 || span.Find(full, 8191) != -1 || span.Find(full, math.MaxInt) != -1 {
		t.Error("4096 spans")
	}
	if span.Total([]api.Span{s(0, top)}) != top || span.Find([]api.Span{s(0, top)}, top-1) != 0 || span.Find([]api.Span{s(0, top)}, top) != -1 {
		t.Error("all sectors")
	}
}

// P3.4: a walk of sets of many spans, held against single sectors.
func TestManyCalls(t *testing.T) {
	const room = 200
	var l []api.Span
	in := make([]bool, room)
	x := uint32(1)
	next := func(n int) int {
		x = x*1664525 + 1013904223
		return int(x>>8) % n
	}
	for range 3000 {
		one := s(next(room-12), next(12))
		add := next(2) == 0
		var e api.Errno
		if add {
			l, e = span.Add(l, one)
		} else {
			l, e = span.Drop(l, one)
		}
		for at := one.At; at < one.At+one.N; at++ {
			in[at] = add
		}
		if e != api.OK || !span.IsSet(l) {
			t.Fatalf("%v %d", l, e)
		}
		for at := range room {
			if (span.Find(l, at) >= 0) != in[at] {
				t.Fatalf("%v: %d", l, at)
			}
		}
	}
}

// R3: nothing that is handed in is changed, or kept in an answer.
func TestNothingShared(t *testing.T) {
	for _, x := range []api.Span{s(0, 0), s(4, 2), s(2, 1), s(30, 1), s(0, 40)} {
		room := append(comb(0, 12), s(7, 7), s(8, 8))
		was := slices.Clone(room)
		l := room[:12]
		for _, call := range []func() []api.Span{
			func() []api.Span { m, _ := span.Set(l); return m },
			func() []api.Span { m, _ := span.Add(l, x); return m },
			func() []api.Span { m, _ := span.Drop(l, x); return m },
			func() []api.Span { m, _ := span.Gaps(l, x); return m },
			func() []api.Span { m, _ := span.Both(l, l); return m },
			func() []api.Span { m, _ := span.Both(l, []api.Span{s(0, 40)}); return m },
			func() []api.Span { return span.Cut(l[0], x) },
			func() []api.Span { return span.Split(x, 7) },
		} {
			one, two := call(), call()
			want := slices.Clone(two)
			for i := range one[:cap(one)] {
				one[:cap(one)][i] = s(9, 9)
			}
			if !slices.Equal(room, was) || !slices.Equal(two, want) {
				t.Errorf("%v: shared, or changed", x)
			}
		}
		back := slices.Clone(was)
		slices.Reverse(back)
		falls := slices.Clone(back)
		span.Set(back[2:])
		if !slices.Equal(back, falls) {
			t.Error("put in order where it stood")
		}
	}
}
