package trace_test

import (
	"maps"
	"math"
	"slices"
	"testing"

	"thatch/api"
	"thatch/polar"
	"thatch/trace"
)

// some are commands of each kind of api.go, and of none, with many codes.
func some() []api.Cmd {
	return []api.Cmd{
		w(2, 0, 3), w(2, 3, 2), as(api.ErrMedia, w(2, 5, 3)), r(2, 5), r(1, 0), as(api.ErrOrder, r(3, 0)),
		{Kind: api.CmdFlush, Zone: -1}, e(2, 5), as(api.ErrState, e(3, 0)), e(4, 0), e(2, 0), as(api.ErrKind, e(1, 0)),
		{Kind: api.CmdOpen, Zone: 3}, {Kind: api.CmdClose, Zone: 3}, {Kind: api.CmdOpen, Zone: 9, Code: api.ErrArg},
		{Kind: api.CmdFlush, Zone: -1}, {Kind: api.CmdFlush, Zone: -1, Code: api.ErrOff},
		{}, {Kind: -1}, {Kind: 8}, {Kind: 8}, {Kind: math.MaxInt}, {Kind: math.MinInt},
		w(4, 0, 8), as(api.ErrEnd, w(4, 8, 1)), w(0, 5, 1),
	}
}

// P25.2: how many commands of each kind were OK.
func TestCounts(t *testing.T) {
	want := map[int]int{api.CmdWrite: 4, api.CmdRead: 2, api.CmdFlush: 2, api.CmdReset: 3, api.CmdOpen: 1, api.CmdClose: 1}
	l := some()
	got := trace.Counts(l)
	if !maps.Equal(got, want) {
		t.Errorf("%v, not %v", got, want)
	}
	if !slices.Equal(l, some()) {
		t.Error("changed")
	}
	// An answer is another map.
	clear(got)
	if again := trace.Counts(l); !maps.Equal(again, want) {
		t.Errorf("%v, not %v", again, want)
	}
	for kind := -1; kind < 10; kind++ {
		is := kind >= 1 && kind <= 7
		for n := range 3 {
			l := slices.Repeat([]api.Cmd{{Kind: kind, Zone: 2}, {Kind: kind, Zone: 2, Code: api.ErrEnd}}, n)
			got := trace.Counts(l)
			switch {
			case is && n > 0 && (got[kind] != n || len(got) != 1), (!is || n == 0) && len(got) != 0:
				t.Errorf("%d of kind %d: %v", n, kind, got)
			}
		}
	}
	if len(trace.Counts(nil)) != 0 || len(trace.Counts([]api.Cmd{as(api.ErrMedia, r(2, 3))})) != 0 {
		t.Error("counted, where there is nothing")
	}
}

// P25.2: how many sectors were written.
func TestWritten(t *testing.T) {
	if n := trace.Written(some()); n != 14 {
		t.Error(n)
	}
	for _, c := range []struct {
		l    []api.Cmd
		want int
	}{
		{nil, 0}, {[]api.Cmd{r(2, 5)}, 0}, {[]api.Cmd{w(2, 0, 5)}, 5}, {[]api.Cmd{as(api.ErrMedia, w(2, 0, 5))}, 0},
		{[]api.Cmd{{Kind: api.CmdReset, N: 5}, {Kind: api.CmdFlush, N: 5}, {Kind: 0, N: 5}, {Kind: api.CmdOpen, N: 5}}, 0},
		{[]api.Cmd{w(0, 0, 1), w(7, 0, 1000), w(0, 0, 1)}, 1002},
	} {
		if n := trace.Written(c.l); n != c.want {
			t.Errorf("%v: %d, not %d", c.l, n, c.want)
		}
	}
}

// P25.2: the spans of reads and writes, in order.
func TestWay(t *testing.T) {
	want := []api.Span{{At: 16, N: 3}, {At: 19, N: 2}, {At: 16, N: 1}, {At: 8, N: 1}, {At: 32, N: 8}, {At: 5, N: 1}}
	l := some()
	got := trace.Way(l)
	if !slices.Equal(got, want) {
		t.Errorf("%v, not %v", got, want)
	}
	clear(got[:cap(got)])
	if !slices.Equal(l, some()) || !slices.Equal(trace.Way(l), want) {
		t.Error("changed")
	}
	if len(trace.Way(nil)) != 0 || len(trace.Way([]api.Cmd{e(2, 0), as(api.ErrEnd, r(2, 0)), as(api.ErrMedia, w(2, 0, 1)), {Kind: 9, N: 3}})) != 0 {
		t.Error("a way of nothing")
	}
	// It is told as it was given.
	odd := []api.Cmd{{Kind: api.CmdRead, At: -5, N: 0}, {Kind: api.CmdWrite, At: math.MaxInt, N: math.MinInt, Zone: 77, Written: 3}}
	if got := trace.Way(odd); !slices.Equal(got, []api.Span{{At: -5, N: 0}, {At: math.MaxInt, N: math.MinInt}}) {
		t.Error(got)
	}
}

// P25.2: what the way costs from place 0 on, a track being a zone.
func TestCost(t *testing.T) {
	for _, c := range []struct {
		l    []api.Cmd
		want int
	}{
		{nil, 0},
		{[]api.Cmd{e(2, 0), {Kind: api.CmdFlush, Zone: -1}}, 0},
		// From the beginning on.
		{[]api.Cmd{w(0, 0, 3)}, 3},
		{[]api.Cmd{w(0, 3, 3)}, 6},
		// On, and back: the rest of a turn.
		{[]api.Cmd{w(0, 0, 3), w(0, 3, 2)}, 5},
		{[]api.Cmd{w(0, 0, 3), w(0, 1, 1)}, 3 + 6 + 1},
		// Two tracks on: a seek of 16 is two turns.
		{[]api.Cmd{w(2, 0, 3)}, 16 + 3},
		{[]api.Cmd{w(2, 5, 3)}, 16 + 5 + 3},
		// To the track's end: the head is at the next one's beginning.
		{[]api.Cmd{w(2, 0, 8), w(3, 0, 1)}, 16 + 8 + 1},
		// What is not OK, or no way, is nothing.
		{[]api.Cmd{as(api.ErrMedia, w(2, 0, 8)), w(0, 0, 3), e(2, 0)}, 3},
		{[]api.Cmd{{Kind: api.CmdRead, At: -1, N: 3}, {Kind: api.CmdRead, At: 5, N: -3}, {Kind: api.CmdRead, At: 3, N: 1 << 20}, w(0, 0, 3)}, 3},
	} {
		if got := trace.Cost(small, c.l); got != c.want {
			t.Errorf("%v: %d, not %d", c.l, got, c.want)
		}
		for _, s := range broken() {
			if got := trace.Cost(s, c.l); got != 0 {
				t.Errorf("%v: %v: %d", s, c.l, got)
			}
		}
		for _, s := range whole() {
			var spans []api.Span
			for _, x := range c.l {
				if x.Code == api.OK && x.Kind <= api.CmdWrite {
					spans = append(spans, api.Span{At: x.At, N: x.N})
				}
			}
			want, _ := polar.Walk(0, spans, s.Len)
			if got := trace.Cost(s, c.l); got != want {
				t.Errorf("%v: %v: %d, not %d", s, c.l, got, want)
			}
		}
	}
}

// P25.2: how often a zone was emptied.
func TestResets(t *testing.T) {
	l := append(some(), e(-1, 0), e(77, 0), e(77, 5), api.Cmd{Kind: api.CmdFinish, Zone: 77})
	for zone, want := range map[int]int{-2: 0, -1: 1, 0: 0, 1: 0, 2: 2, 3: 0, 4: 1, 5: 0, 77: 2, math.MaxInt: 0, math.MinInt: 0} {
		if got := trace.Resets(l, zone); got != want {
			t.Errorf("zone %d: %d, not %d", zone, got, want)
		}
	}
	if trace.Resets(nil, 0) != 0 {
		t.Error("of nothing")
	}
}
