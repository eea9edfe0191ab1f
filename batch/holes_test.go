package batch_test

import (
	"math"
	"slices"
	"testing"

	"thatch/api"
	"thatch/batch"
)

// wantHoles wants just these batches.
func wantHoles(t *testing.T, x api.Geom, seq int, l []api.Span, want ...api.Batch) {
	t.Helper()
	if got, e := batch.Holes(x, seq, l); e != api.OK || !slices.EqualFunc(got, want, isSame) {
		t.Errorf("%v from %d on: %v %d, not %v", l, seq, got, e, want)
	}
}

// wantHolesErr wants that there are none.
func wantHolesErr(t *testing.T, x api.Geom, seq int, l []api.Span, want api.Errno) {
	t.Helper()
	if got, e := batch.Holes(x, seq, l); e != want || len(got) > 0 {
		t.Errorf("%d spans from %d on: %v %d, not %d", len(l), seq, got, e, want)
	}
}

// P16.3: batches of nothing, told by hand.
func TestHoles(t *testing.T) {
	wantHoles(t, small, 50, nil)
	wantHoles(t, small, 50, []api.Span{})
	wantHoles(t, small, 50, []api.Span{s(3, 2)}, hole(50, s(3, 2)))
	wantHoles(t, small, 50, []api.Span{s(0, 45)}, hole(50, s(0, 45)))
	// What touches stays two spans, and what does not rise stays as it is.
	wantHoles(t, small, 50, []api.Span{s(3, 2), s(5, 2), s(0, 3)}, hole(50, s(3, 2), s(5, 2), s(0, 3)))
	wantHoles(t, small, 50, singles(0, 8), hole(50, singles(0, 8)...))
	wantHoles(t, small, 50, singles(0, 9), hole(50, singles(0, 8)...), hole(51, s(16, 1)))
	wantHoles(t, small, 50, singles(0, 16), hole(50, singles(0, 8)...), hole(51, singles(16, 8)...))
	wantHoles(t, small, 50, singles(0, 17), hole(50, singles(0, 8)...), hole(51, singles(16, 8)...), hole(52, s(32, 1)))
	// One of its own has a sector in common.
	wantHoles(t, small, 1, []api.Span{s(3, 2), s(3, 2)}, hole(1, s(3, 2)), hole(2, s(3, 2)))
	wantHoles(t, small, 1, []api.Span{s(3, 2), s(4, 2)}, hole(1, s(3, 2)), hole(2, s(4, 2)))
	wantHoles(t, small, 1, []api.Span{s(3, 2), s(9, 1), s(0, 45), s(44, 1), s(0, 1)}, hole(1, s(3, 2), s(9, 1)), hole(2, s(0, 45)), hole(3, s(44, 1), s(0, 1)))
	// Of the batch ahead none of that matters.
	wantHoles(t, small, 1, []api.Span{s(3, 2), s(4, 1), s(3, 1)}, hole(1, s(3, 2)), hole(2, s(4, 1), s(3, 1)))
	wantHoles(t, small, 1, slices.Concat(singles(0, 8), singles(0, 8)), hole(1, singles(0, 8)...), hole(2, singles(0, 8)...))
}

// P16.3: what is cut at multiples of MaxExtent.
func TestHolesCut(t *testing.T) {
	wantHoles(t, wide, 9, []api.Span{s(0, 4096)}, hole(9, s(0, 4096)))
	wantHoles(t, wide, 9, []api.Span{s(0, 4097)}, hole(9, s(0, 4096), s(4096, 1)))
	wantHoles(t, wide, 9, []api.Span{s(4095, 2)}, hole(9, s(4095, 1), s(4096, 1)))
	wantHoles(t, wide, 9, []api.Span{s(0, 14322)}, hole(9, s(0, 4096), s(4096, 4096), s(8192, 4096), s(12288, 2034)))
	wantHoles(t, wide, 9, []api.Span{s(5, 14000), s(0, 5)}, hole(9, s(5, 4091), s(4096, 4096), s(8192, 4096), s(12288, 1717), s(0, 5)))
	// Its pieces are in one batch, or in two.
	all := []api.Span{s(0, 14322), s(4096, 1), s(0, 14322)}
	wantHoles(t, wide, 9, all,
		hole(9, s(0, 4096), s(4096, 4096), s(8192, 4096), s(12288, 2034)),
		hole(10, s(4096, 1), s(0, 4096)),
		hole(11, s(4096, 4096), s(8192, 4096), s(12288, 2034)))
	wantHoles(t, wide, 9, append(singles(0, 6), s(4000, 9000)),
		hole(9, append(singles(0, 6), s(4000, 96), s(4096, 4096))...),
		hole(10, s(8192, 4096), s(12288, 712)))
	great := g(16, 128, 1024, 128, 1)
	got, e := batch.Holes(great, 1, []api.Span{s(0, sectorsOf(great))})
	if e != api.OK || len(got) != 4 || len(got[3].Spans) != 8 || got[3].Spans[7] != s(126976, 1922) {
		t.Error(got, e)
	}
}

// fewest is in how few batches pieces can be, in order, as a table over all their
// beginnings says.
func fewest(pieces []api.Span) int {
	best := []int{0}
	for to := 1; to <= len(pieces); to++ {
		least := to
		for from := max(0, to-8); from < to; from++ {
			if apart(pieces[from:to]) {
				least = min(least, best[from]+1)
			}
		}
		best = append(best, least)
	}
	return best[len(pieces)]
}

// apart tells whether no two spans have a sector in common.
func apart(l []api.Span) bool {
	for i, x := range l {
		for _, y := range l[:i] {
			if x.At < y.At+y.N && y.At < x.At+x.N {
				return false
			}
		}
	}
	return true
}

// P16.3: of any spans: each piece in order, in batches that may be, as few as can
// be, and each as full as it can be.
func TestHolesAny(t *testing.T) {
	for _, x := range []api.Geom{small, narrow, wide} {
		for seed := range 300 {
			number := numbers(uint64(seed))
			var l, pieces []api.Span
			for range number(40) {
				at := number(sectorsOf(x))
				n := 1 + number(min(sectorsOf(x)-at, []int{3, 40, 9000}[seed%3]))
				l = append(l, s(at, n))
				for from := at; from < at+n; {
					to := min(at+n, (from/4096+1)*4096)
					pieces = append(pieces, s(from, to-from))
					from = to
				}
			}
			got, e := batch.Holes(x, 1000, l)
			if e != api.OK || len(got) != fewest(pieces) {
				t.Fatalf("%v: %d batches, %d, not %d", l, len(got), e, fewest(pieces))
			}
			var all []api.Span
			for i, b := range got {
				if b.Seq != 1000+i || b.Kind != api.BatchHole || !batch.May(x, b) {
					t.Errorf("%v: %v", l, b)
				}
				all = append(all, b.Spans...)
				if i+1 < len(got) && len(b.Spans) < 8 && apart(append(slices.Clone(b.Spans), got[i+1].Spans[0])) {
					t.Errorf("%v: %v has room for more", l, b)
				}
			}
			if !slices.Equal(all, pieces) {
				t.Errorf("%v: %v, not %v", l, all, pieces)
			}
		}
	}
}

// P16.3: sectors that there are not come ahead of numbers that there are not.
func TestHolesRange(t *testing.T) {
	for _, bad := range []api.Span{{}, s(0, 0), s(5, 0), s(45, 1), s(44, 2), s(0, 46), s(-1, 1), s(0, -1), s(math.MaxInt, 1), s(0, math.MaxInt), s(math.MinInt, math.MinInt), s(top, 0)} {
		for _, seq := range []int{1, 50, top, 0, -1, top + 1, math.MinInt, math.MaxInt} {
			wantHolesErr(t, small, seq, []api.Span{bad}, api.ErrRange)
			wantHolesErr(t, small, seq, []api.Span{bad, s(0, 1)}, api.ErrRange)
			wantHolesErr(t, small, seq, append(singles(0, 20), bad), api.ErrRange)
		}
	}
}

// P16.3: the least and the greatest numbers.
func TestHolesNumbers(t *testing.T) {
	one, two, three := []api.Span{s(0, 1)}, singles(0, 9), singles(0, 17)
	for _, seq := range []int{math.MinInt, math.MinInt + 1, -2, -1, 0, top + 1, top + 2, math.MaxInt - 1, math.MaxInt} {
		wantHolesErr(t, small, seq, one, api.ErrArg)
		wantHolesErr(t, small, seq, two, api.ErrArg)
		wantHolesErr(t, small, seq, three, api.ErrArg)
		// No batches, no numbers.
		wantHoles(t, small, seq, nil)
	}
	wantHoles(t, small, 1, one, hole(1, s(0, 1)))
	wantHoles(t, small, top, one, hole(top, s(0, 1)))
	wantHolesErr(t, small, top, two, api.ErrArg)
	wantHoles(t, small, top-1, two, hole(top-1, singles(0, 8)...), hole(top, s(16, 1)))
	wantHolesErr(t, small, top-1, three, api.ErrArg)
	wantHoles(t, small, top-2, three, hole(top-2, singles(0, 8)...), hole(top-1, singles(16, 8)...), hole(top, s(32, 1)))
}

// P16.3: many spans, more than a set has.
func TestHolesMany(t *testing.T) {
	l := slices.Repeat([]api.Span{s(3, 1), s(5, 1)}, 10000)
	got, e := batch.Holes(small, 1, l)
	if e != api.OK || len(got) != 10000 {
		t.Fatal(len(got), e)
	}
	for i, b := range got {
		if !isSame(b, hole(i+1, s(3, 1), s(5, 1))) {
			t.Fatal(b)
		}
	}
}
