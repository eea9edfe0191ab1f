package span_test

import (
	"math"
	"slices"
	"testing"

	"thatch/api"
	"thatch/span"
)

const top = api.MaxAt

func s(at, n int) api.Span { return api.Span{At: at, N: n} }

// broken are spans that may not be.
func broken() []api.Span {
	return []api.Span{
		s(-1, 0), s(-1, 2), s(0, -1), s(5, -1), s(top+1, 0), s(top, 1), s(1, top), s(0, top+1), s(top, top),
		s(math.MinInt, 0), s(0, math.MinInt), s(math.MaxInt, 0), s(0, math.MaxInt), s(math.MaxInt, math.MaxInt),
		s(math.MinInt, math.MaxInt), s(math.MaxInt, math.MinInt), s(math.MinInt, math.MinInt), s(-5, 10), s(10, -5),
		s(1, math.MaxInt), s(math.MaxInt, 1), s(top, math.MaxInt-top+1),
	}
}

// whole are spans that may be, at the edges too.
func whole() []api.Span {
	l := []api.Span{s(0, top), s(0, top-1), s(1, top-1), s(top, 0), s(top-1, 1), s(top-1, 0), s(top-5, 5), s(0, 1)}
	for at := range 7 {
		for n := range 7 {
			l = append(l, s(at, n))
		}
	}
	return l
}

func wantSpans(t *testing.T, what string, got []api.Span, want ...api.Span) {
	t.Helper()
	if !slices.Equal(got, want) {
		t.Errorf("%s: %v, not %v", what, got, want)
	}
}

// P3.1: which spans may be, and where they end.
func TestMayEnd(t *testing.T) {
	for _, x := range broken() {
		if span.May(x) || span.End(x) != 0 {
			t.Errorf("%v: may be, or ends at %d", x, span.End(x))
		}
	}
	for _, x := range whole() {
		if !span.May(x) || span.End(x) != x.At+x.N {
			t.Errorf("%v: may not be, or ends at %d", x, span.End(x))
		}
	}
}

// P3.1: which sectors a span has.
func TestHas(t *testing.T) {
	places := []int{math.MinInt, -2, -1, 0, 1, 2, 3, 4, 5, 6, 7, 11, 12, 13, 100, top - 6, top - 5, top - 2, top - 1, top, top + 1, math.MaxInt}
	for _, at := range places {
		for _, x := range broken() {
			if span.Has(x, at) {
				t.Errorf("%v has %d", x, at)
			}
		}
		for _, x := range whole() {
			if span.Has(x, at) != (x.At <= at && at < x.At+x.N) {
				t.Errorf("%v has %d: %v", x, at, span.Has(x, at))
			}
		}
	}
}

// P3.1: sectors of two spans, held against their single sectors.
func TestMeetCut(t *testing.T) {
	for _, a := range whole() {
		for _, b := range whole() {
			if a.N > 10 || b.N > 10 {
				continue
			}
			meet, cut := api.Span{}, []api.Span(nil)
			fresh := true
			for at := a.At; at < a.At+a.N; at++ {
				if b.At <= at && at < b.At+b.N {
					if meet.N == 0 {
						meet.At = at
					}
					meet.N++
					fresh = true
					continue
				}
				if fresh {
					cut = append(cut, s(at, 0))
				}
				fresh = false
				cut[len(cut)-1].N++
			}
			if got := span.Meet(a, b); got != meet {
				t.Errorf("Meet %v %v: %v, not %v", a, b, got, meet)
			}
			wantSpans(t, "Cut", span.Cut(a, b), cut...)
		}
	}
}

// P3.1: two spans of which one is great.
func TestMeetCutGreat(t *testing.T) {
	wantSpans(t, "the example", span.Cut(s(0, 10), s(3, 4)), s(0, 3), s(7, 3))
	wantSpans(t, "the middle", span.Cut(s(0, top), s(1, top-2)), s(0, 1), s(top-1, 1))
	wantSpans(t, "one sector", span.Cut(s(0, top), s(5, 1)), s(0, 5), s(6, top-6))
	wantSpans(t, "the beginning", span.Cut(s(0, top), s(0, 1)), s(1, top-1))
	wantSpans(t, "the end", span.Cut(s(0, top), s(top-1, 1)), s(0, top-1))
	wantSpans(t, "all", span.Cut(s(3, 4), s(0, top)))
	wantSpans(t, "an empty one within", span.Cut(s(0, 10), s(4, 0)), s(0, 10))
	wantSpans(t, "of an empty one", span.Cut(s(4, 0), s(9, 1)))
	if got := span.Meet(s(0, top), s(top-3, 3)); got != s(top-3, 3) {
		t.Errorf("Meet: %v", got)
	}
	if got := span.Meet(s(4, 0), s(0, 10)); got != s(0, 0) {
		t.Errorf("Meet: %v", got)
	}
}

// P3.1: with one that may not be.
func TestMeetCutBroken(t *testing.T) {
	for _, x := range broken() {
		for _, y := range append(whole(), x) {
			if got := []api.Span{span.Meet(x, y), span.Meet(y, x)}; got[0] != s(0, 0) || got[1] != s(0, 0) {
				t.Errorf("Meet %v %v: %v", x, y, got)
			}
			if len(span.Cut(x, y)) != 0 || len(span.Cut(y, x)) != 0 {
				t.Errorf("Cut %v %v: something", x, y)
			}
		}
	}
}

// P3.1: parts at the multiples of a unit.
func TestSplit(t *testing.T) {
	for _, x := range whole() {
		if x.N > 10 {
			continue
		}
		for unit := 1; unit < 9; unit++ {
			var want []api.Span
			for at := x.At; at < x.At+x.N; at++ {
				if at == x.At || at%unit == 0 {
					want = append(want, s(at, 0))
				}
				want[len(want)-1].N++
			}
			wantSpans(t, "Split", span.Split(x, unit), want...)
		}
		for _, unit := range []int{0, -1, -4, math.MinInt} {
			wantSpans(t, "no unit", span.Split(x, unit))
		}
	}
	for _, x := range broken() {
		for _, unit := range []int{1, 4, 4096, math.MaxInt} {
			wantSpans(t, "a span that may not be", span.Split(x, unit))
		}
	}
	wantSpans(t, "a great unit", span.Split(s(0, top), math.MaxInt), s(0, top))
	wantSpans(t, "a unit of all", span.Split(s(0, top), top), s(0, top))
	wantSpans(t, "two halves", span.Split(s(0, top), top/2), s(0, top/2), s(top/2, top/2))
}

// P3.1: 4096 parts, and one more.
func TestSplitMany(t *testing.T) {
	for _, c := range []struct {
		s          api.Span
		unit, want int
	}{
		{s(0, 4096), 1, 4096},
		{s(0, 4097), 1, 0},
		{s(7, 4096), 1, 4096},
		{s(7, 4097), 1, 0},
		{s(0, 40960), 10, 4096},
		{s(0, 40961), 10, 0},
		{s(9, 40952), 10, 0},
		{s(9, 40951), 10, 4096},
		{s(0, top), top / 4096, 4096},
		{s(0, top), top/4096 - 1, 0},
		{s(0, top), 1, 0},
		{s(top-4096, 4096), 1, 4096},
	} {
		l := span.Split(c.s, c.unit)
		if len(l) != c.want {
			t.Errorf("%v by %d: %d parts", c.s, c.unit, len(l))
		}
		from := c.s.At
		for _, p := range l {
			if p.At != from || p.N < 1 || p.At/c.unit != (p.At+p.N-1)/c.unit {
				t.Fatalf("%v by %d: %v", c.s, c.unit, p)
			}
			from += p.N
		}
		if c.want > 0 && from != c.s.At+c.s.N {
			t.Errorf("%v by %d: ends at %d", c.s, c.unit, from)
		}
	}
}
