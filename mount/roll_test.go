package mount_test

import (
	"math"
	"slices"
	"testing"

	"thatch/api"
	"thatch/mount"
)

// someStood are batches at any places of a geometry.
func someStood(x api.Geom, number func(int) int, n int) []api.Stood {
	var l []api.Stood
	for range n {
		b := someBatch(x, 1+number(30), number)
		long := 1
		if b.Kind == api.BatchData {
			for _, s := range b.Spans {
				long += s.N
			}
		}
		l = append(l, at(x.Conv+number(x.Seq), number(x.Len-long+1), b))
	}
	return l
}

// P22.1: any states behind any batches, as lists of places have them.
func TestRoll(t *testing.T) {
	changed, stayed := 0, 0
	for seed := range uint64(600) {
		x := []api.Geom{small, narrow, wide, crowded}[seed%4]
		number := numbers(seed)
		state := someState(x, number)
		l := someStood(x, number, number(7))
		want := rolled(x, state, l)
		got, e := mount.Roll(x, state, l)
		if e != api.OK || !same(got, want) {
			t.Fatalf("%v behind %v: %v %d, not %v", state, l, got, e, want)
		}
		if got.Upto > state.Upto {
			changed++
		} else {
			stayed++
		}
	}
	if changed < 100 || stayed < 50 {
		t.Error(changed, stayed)
	}
}

// P22.1: the chapter's words, one by one.
func TestRollWritten(t *testing.T) {
	state := empty(small)
	state.Upto = 4
	state.Extents = []api.Extent{extent(0, 2, 3, 1), extent(2, 2, 3, 3)}
	want := func(what string, upto int, l []api.Stood, extents ...api.Extent) {
		t.Helper()
		got, e := mount.Roll(small, state, l)
		w := empty(small)
		w.Upto, w.Extents = upto, extents
		if e != api.OK || !same(got, w) {
			t.Errorf("%s: %v %d, not %v", what, got, e, w)
		}
	}
	five, six := data(5, s(0, 2)), holes(6, s(1, 2))
	want("none", 4, nil, state.Extents...)
	want("not above", 4, []api.Stood{at(2, 0, data(4, s(0, 2))), at(2, 3, holes(1, s(0, 33)))}, state.Extents...)
	want("rising", 6, []api.Stood{at(2, 0, five), at(2, 3, six)}, extent(0, 1, 2, 1), extent(1, 2, 255, 0), extent(3, 1, 3, 4))
	want("falling", 6, []api.Stood{at(5, 7, six), at(2, 0, five)}, extent(0, 1, 2, 1), extent(1, 2, 255, 0), extent(3, 1, 3, 4))
	want("one above, one not", 6, []api.Stood{at(2, 0, data(4, s(8, 2))), at(2, 3, six)}, extent(0, 1, 3, 1), extent(1, 2, 255, 0), extent(3, 1, 3, 4))
	want("equal ones", 5, []api.Stood{at(2, 0, five), at(7, 9, five)}, extent(0, 2, 7, 10), extent(2, 2, 3, 3))
	want("equal ones, the other way", 5, []api.Stood{at(7, 9, five), at(2, 0, five)}, extent(0, 2, 2, 1), extent(2, 2, 3, 3))
	want("with a gap, the greatest one", 1<<40, []api.Stood{at(2, 11, holes(1<<40, s(32, 1)))}, extent(0, 4, 3, 1), extent(32, 1, 255, 0))
	want("two spans", 5, []api.Stood{at(2, 0, data(5, s(20, 3), s(0, 4)))}, extent(0, 4, 2, 4), extent(20, 3, 2, 1))
	want("to the zone's end", 5, []api.Stood{at(2, 3, data(5, s(20, 3), s(0, 5)))}, extent(0, 5, 2, 7), extent(20, 3, 2, 4))
}

// P22.1: a state that is rolled may have more extents than a slot has room for.
func TestRollCrowded(t *testing.T) {
	var l []api.Stood
	for i := range 40 {
		l = append(l, at(2+i%5, 0, holes(1+i, s(2*i, 1))))
	}
	got, e := mount.Roll(crowded, empty(crowded), l)
	if e != api.OK || len(got.Extents) != 40 || got.Upto != 40 {
		t.Error(got, e)
	}
	if again, e := mount.Roll(crowded, got, nil); e != api.ErrArg || !none(again) {
		t.Error(again, e)
	}
}

// broken are states of small that may not be.
func broken() []api.State {
	var l []api.State
	add := func(change func(s *api.State)) {
		s := empty(small)
		s.Extents = []api.Extent{extent(0, 2, 3, 1), extent(2, 2, 3, 3)}
		change(&s)
		l = append(l, s)
	}
	l = append(l, api.State{}, empty(narrow), empty(wide))
	add(func(s *api.State) { s.Upto = -1 })
	add(func(s *api.State) { s.Upto = 1<<40 + 1 })
	add(func(s *api.State) { s.Homes = append(s.Homes, 255) })
	add(func(s *api.State) { s.Homes[0] = 1 })
	add(func(s *api.State) { s.Homes[0] = 8 })
	add(func(s *api.State) { s.Bad = s.Bad[:5] })
	add(func(s *api.State) { s.Extents[0].Zone = 8 })
	add(func(s *api.State) { s.Extents[0].N = 3 })
	add(func(s *api.State) { slices.Reverse(s.Extents) })
	return l
}

// P22.1: what Roll refuses.
func TestRollRefused(t *testing.T) {
	right := []api.Stood{at(2, 0, data(5, s(0, 2))), at(7, 11, holes(3, s(3, 3)))}
	refused := func(x api.Geom, state api.State, l []api.Stood, want api.Errno) {
		t.Helper()
		if got, e := mount.Roll(x, state, l); e != want || !none(got) {
			t.Errorf("%v %v %v: %v %d, not %d", x, state, l, got, e, want)
		}
	}
	bad := []api.Stood{
		{}, at(1, 0, data(5, s(0, 2))), at(8, 0, data(5, s(0, 2))), at(-1, 0, data(5, s(0, 2))), at(255, 0, holes(5, s(0, 2))),
		at(2, -1, data(5, s(0, 2))), at(2, 10, data(5, s(0, 2))), at(2, 12, data(5, s(0, 2))), at(2, 12, holes(5, s(0, 2))), at(2, -1, holes(5, s(0, 2))), at(2, math.MaxInt, holes(5, s(0, 2))), at(2, math.MinInt, data(5, s(0, 2))), at(2, math.MaxInt, data(5, s(0, 8))),
		at(2, 0, data(0, s(0, 2))), at(2, 0, data(1<<40+1, s(0, 2))), at(2, 0, data(5)), at(2, 0, data(5, s(0, 9))), at(2, 0, data(5, s(32, 2))), at(2, 0, data(5, s(0, 2), s(1, 2))), at(2, 0, holes(5, s(33, 1))), at(2, 0, api.Batch{Seq: 5, Kind: 3, Spans: []api.Span{s(0, 2)}}), at(2, 0, api.Batch{Seq: 5, Spans: []api.Span{s(0, 2)}}),
		// Also of a batch that the state has already.
		at(2, 10, data(1, s(0, 2))), at(8, 0, holes(1, s(0, 2))),
	}
	state := empty(small)
	state.Upto = 4
	for _, x := range brokenGeoms() {
		refused(x, state, right, api.ErrGeom)
		refused(x, api.State{}, bad, api.ErrGeom)
	}
	for _, b := range bad {
		refused(small, state, []api.Stood{b}, api.ErrArg)
		refused(small, state, append(slices.Clone(right), b), api.ErrArg)
		refused(small, state, append([]api.Stood{b}, right...), api.ErrArg)
	}
	for _, x := range broken() {
		refused(small, x, nil, api.ErrArg)
		refused(small, x, right, api.ErrArg)
	}
	if _, e := mount.Roll(small, state, right); e != api.OK {
		t.Error(e)
	}
}
