package record_test

import (
	"math"
	"slices"
	"testing"

	"thatch/api"
	"thatch/record"
)

// some are n deltas, each another one.
func some(n int) []api.Delta {
	var l []api.Delta
	for i := range n {
		switch i % 5 {
		case 0:
			l = append(l, hole(i, 1+i%65535))
		case 1:
			l = append(l, home(i, api.NoZone))
		case 2:
			l = append(l, api.Delta{Kind: api.DeltaBad, Zone: i % 144})
		default:
			l = append(l, put(i, 1+i%9, i%144, i%1025))
		}
	}
	return l
}

// wantGroup wants that these are the records of a group.
func wantGroup(t *testing.T, g []api.Record, l []api.Delta, epoch, seq, upto int) {
	t.Helper()
	left := l
	for i, r := range g {
		n := min(6, len(left))
		want := api.Record{Epoch: epoch, Seq: seq + i, Commit: i == len(g)-1, Upto: upto, Deltas: left[:n]}
		if !isSame(r, want) {
			t.Errorf("record %d of %d deltas: %v, not %v", i, len(l), r, want)
		}
		left = left[n:]
	}
	if len(g) == 0 || len(left) > 0 || len(l) > 0 && len(g[len(g)-1].Deltas) == 0 {
		t.Errorf("%d deltas in %d records, %d are left", len(l), len(g), len(left))
	}
}

// P9.2: how many records a group has.
func TestNeeds(t *testing.T) {
	for n, want := range map[int]int{math.MinInt: 0, -7: 0, -1: 0, 0: 1, 1: 1, 5: 1, 6: 1, 7: 2, 12: 2, 13: 3, 5999: 1000, 6000: 1000, 6001: 1001, math.MaxInt - 1: 1537228672809129301, math.MaxInt: 1537228672809129302} {
		if got := record.Needs(n); got != want {
			t.Errorf("%d deltas: %d", n, got)
		}
	}
}

// P9.2, P9.3: groups, and what they are joined to.
func TestGroup(t *testing.T) {
	all := some(6001)
	counts := []int{5993, 5994, 5995, 5999, 6000}
	for n := range 40 {
		counts = append(counts, n)
	}
	for _, n := range counts {
		for _, x := range [][3]int{{1, 0, 0}, {1 << 31, 1<<40 - 1000, 1 << 40}, {5, 100, 33}} {
			g, e := record.Group(all[:n], x[0], x[1], x[2])
			if e != api.OK || len(g) != record.Needs(n) {
				t.Fatalf("%d deltas, %v: %d records, %d", n, x, len(g), e)
			}
			wantGroup(t, g, all[:n], x[0], x[1], x[2])
			if l, ok := record.Join(g); !ok || !slices.Equal(l, all[:n]) {
				t.Errorf("%d deltas: %d joined, %t", n, len(l), ok)
			}
			for _, r := range g {
				b, e := record.Encode(r)
				got, f := record.Decode(b)
				if e != api.OK || f != api.OK || !isSame(got, r) {
					t.Errorf("%v: %d, %d", r, e, f)
				}
			}
		}
	}
}

// wantRefused wants that there is no such group.
func wantRefused(t *testing.T, l []api.Delta, epoch, seq, upto int, want api.Errno) {
	t.Helper()
	if g, e := record.Group(l, epoch, seq, upto); e != want || len(g) != 0 {
		t.Errorf("%d deltas, %d, %d, %d: %d records, %d, not %d", len(l), epoch, seq, upto, len(g), e, want)
	}
}

// P9.2: groups that may not be, and which error comes first.
func TestGroupRefused(t *testing.T) {
	for _, n := range []int{0, 1, 6, 7, 6000, 6001, 7000} {
		l := some(n)
		for _, epoch := range []int{math.MinInt, -1, 0, 1<<31 + 1, math.MaxInt} {
			wantRefused(t, l, epoch, 1, 1, api.ErrArg)
		}
		for _, x := range []int{math.MinInt, -1, 1<<40 + 1, math.MaxInt} {
			wantRefused(t, l, 1, x, 1, api.ErrArg)
			wantRefused(t, l, 1, 1, x, api.ErrArg)
		}
		for _, i := range []int{0, 5, 6, n / 2, n - 7, n - 1} {
			if i >= 0 && i < n {
				was := l[i]
				l[i] = api.Delta{Kind: api.DeltaBad, Zone: 144}
				wantRefused(t, l, 1, 1, 1, api.ErrArg)
				l[i] = was
			}
		}
		// The last one's number is the greatest, or beyond it.
		last := 1<<40 + 1 - record.Needs(n)
		wantRefused(t, l, 1, last+1, 1, api.ErrArg)
		if n > 6000 {
			wantRefused(t, l, 1, last, 1, api.ErrLong)
		} else if g, e := record.Group(l, 1, last, 1); e != api.OK || g[len(g)-1].Seq != 1<<40 {
			t.Errorf("%d deltas up to the last number: %d", n, e)
		}
	}
	wantRefused(t, some(6001), 1, 0, 0, api.ErrLong)
	wantRefused(t, some(20000), 1, 0, 0, api.ErrLong)
}

// wantJoined wants what some records are joined to; nothing, if they are no group.
func wantJoined(t *testing.T, what string, l []api.Record, want []api.Delta, is bool) {
	t.Helper()
	got, ok := record.Join(l)
	if ok != is || !slices.Equal(got, want) {
		t.Errorf("%s: %v %t, not %v %t", what, got, ok, want, is)
	}
}

// four is a group of four records, changed.
func four(t *testing.T, change func(g []api.Record)) []api.Record {
	t.Helper()
	g, e := record.Group(some(21), 5, 100, 33)
	if e != api.OK || len(g) != 4 {
		t.Fatal(e)
	}
	change(g)
	return g
}

// P9.2: what is no group.
func TestJoinNone(t *testing.T) {
	wantJoined(t, "no records", nil, nil, false)
	wantJoined(t, "no records", []api.Record{}, nil, false)
	for i := range 4 {
		for _, by := range []int{-1, 1, 2, -200, math.MaxInt, math.MinInt} {
			wantJoined(t, "another number", four(t, func(g []api.Record) { g[i].Seq += by }), nil, false)
			wantJoined(t, "another epoch", four(t, func(g []api.Record) { g[i].Epoch += by }), nil, false)
			wantJoined(t, "another Upto", four(t, func(g []api.Record) { g[i].Upto += by }), nil, false)
		}
		wantJoined(t, "another Commit", four(t, func(g []api.Record) { g[i].Commit = !g[i].Commit }), nil, false)
		wantJoined(t, "none behind it", four(t, func([]api.Record) {})[:i], nil, false)
		if i < 3 {
			for _, n := range []int{0, 1, 5, 7, 12} {
				wantJoined(t, "too few deltas, or too many", four(t, func(g []api.Record) { g[i].Deltas = some(n) }), nil, false)
			}
			wantJoined(t, "two in each other's place", four(t, func(g []api.Record) { g[i], g[i+1] = g[i+1], g[i] }), nil, false)
			wantJoined(t, "one is missing", slices.Delete(four(t, func([]api.Record) {}), i+1, i+2), nil, false)
		}
	}
	twice := four(t, func([]api.Record) {})
	wantJoined(t, "one twice", append(twice, twice[3]), nil, false)
	round := api.Record{Seq: math.MaxInt, Deltas: some(6)}
	wantJoined(t, "no number behind the greatest", []api.Record{round, {Seq: math.MinInt, Commit: true}}, nil, false)
}

// P9.2: nothing else of a group is looked at.
func TestJoinAny(t *testing.T) {
	for i := range 4 {
		g := four(t, func([]api.Record) {})[i:]
		wantJoined(t, "the end of a group", g, some(21)[6*i:], true)
	}
	for _, n := range []int{0, 1, 6, 7, 8, 100} {
		g := four(t, func(g []api.Record) { g[3].Deltas = some(n) })
		wantJoined(t, "any deltas of the last one", g, append(some(18), some(n)...), true)
	}
	wrong := slices.Repeat([]api.Delta{{Kind: 9, At: -1, N: -1, Zone: 999, Off: -5}}, 6)
	for _, seq := range []int{math.MinInt, -2, -1, 1 << 40, math.MaxInt - 1} {
		g := []api.Record{{Epoch: -3, Seq: seq, Upto: math.MinInt, Deltas: wrong}, {Epoch: -3, Seq: seq + 1, Commit: true, Upto: math.MinInt, Deltas: wrong[:2]}}
		wantJoined(t, "what may not be", g, append(slices.Clone(wrong), wrong[:2]...), true)
	}
	wantJoined(t, "nothing at all", []api.Record{{Commit: true}}, nil, true)
	var long []api.Record
	for i := range 1500 {
		long = append(long, api.Record{Epoch: 1, Seq: i, Commit: i == 1499, Deltas: some(6)})
	}
	wantJoined(t, "more than Group makes", long, slices.Repeat(some(6), 1500), true)
}

// R3: what is handed in is not changed, nor the room behind it, and answers are
// new memory that they do not share with one another.
func TestNothingShared(t *testing.T) {
	room := some(40)
	l := room[:20]
	g, _ := record.Group(l, 1, 2, 3)
	for _, r := range g {
		wipe(r.Deltas)
	}
	if !slices.Equal(room, some(40)) {
		t.Error("Group's records are what was handed in")
	}
	g, _ = record.Group(l, 1, 2, 3)
	for i := range g {
		wipe(g[i].Deltas)
		for k := i + 1; k < len(g); k++ {
			if !slices.Equal(g[k].Deltas, room[6*k:min(6*k+6, 20)]) {
				t.Errorf("records %d and %d share", i, k)
			}
		}
	}
	g, _ = record.Group(l, 1, 2, 3)
	joined, _ := record.Join(g)
	wipe(joined)
	wantGroup(t, g, l, 1, 2, 3)
	g, _ = record.Group(l[:3], 1, 2, 3)
	joined, _ = record.Join(g)
	wipe(joined)
	wantGroup(t, g, l[:3], 1, 2, 3)

	b, _ := record.Encode(plain())
	again, _ := record.Encode(plain())
	r, _ := record.Decode(b)
	clear(b[:cap(b)])
	if got, e := record.Decode(again); e != api.OK || !isSame(r, plain()) || !isSame(got, plain()) {
		t.Error("sectors are shared")
	}
	wipe(r.Deltas)
	if got, e := record.Decode(again); e != api.OK || !isSame(got, plain()) {
		t.Error("what was decoded is shared")
	}
}

// wipe changes a list, and the room behind its end.
func wipe(l []api.Delta) {
	l = l[:cap(l)]
	for i := range l {
		l[i] = api.Delta{Kind: -1}
	}
}
