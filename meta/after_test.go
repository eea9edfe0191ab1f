package meta_test

import (
	"slices"
	"testing"

	"thatch/api"
	"thatch/meta"
)

// P21.3: states behind any deltas, as a list of places has them.
func TestAfter(t *testing.T) {
	for seed := range uint64(90) {
		x := []api.Geom{small, narrow, odd, crowded}[seed%4]
		number := numbers(seed)
		p := newPlain(x)
		p.upto = number(9)
		s := p.state()
		for range 12 {
			var l []api.Delta
			for range number(7) {
				d := someDelta(x, number)
				l = append(l, d)
				p.change(d)
			}
			was := p.state()
			after, e := meta.After(x, s, l)
			if e != api.OK || !same(after, was) {
				t.Fatalf("%v behind %v: %v %d, not %v", s, l, after, e, was)
			}
			s = after
		}
	}
}

// P21.3: kind by kind.
func TestAfterKinds(t *testing.T) {
	after := func(change func(s *api.State), l ...api.Delta) {
		t.Helper()
		want := busy()
		change(&want)
		if s, e := meta.After(small, busy(), l); e != api.OK || !same(s, want) {
			t.Errorf("%v: %v %d, not %v", l, s, e, want)
		}
	}
	after(func(*api.State) {})
	after(func(s *api.State) { s.Extents[1] = extent(9, 3, 4, 2) }, put(10, 2, 4, 3), put(9, 1, 4, 2))
	after(func(s *api.State) { s.Extents = []api.Extent{extent(3, 9, 2, 1)} }, hole(0, 1), home(0, 255), put(3, 7, 2, 1), put(10, 2, 2, 8))
	after(func(s *api.State) { s.Homes[1] = 2 }, home(1, 2))
	after(func(s *api.State) { s.Homes[1] = 255 }, home(1, 6), home(1, 255))
	after(func(s *api.State) { s.Homes[0], s.Extents = 6, nil }, home(0, 6))
	after(func(s *api.State) { s.Bad[0], s.Bad[4] = true, true }, bad(2), bad(6), bad(2), bad(4))
	after(func(s *api.State) { s.Extents = []api.Extent{extent(0, 30, 255, 0)} }, hole(0, 30))
	// Extents that might be joined are, be there no deltas at all.
	s := busy()
	s.Extents = []api.Extent{extent(3, 1, 2, 1), extent(4, 3, 2, 2), extent(10, 1, 255, 0), extent(11, 1, 255, 0)}
	if x, e := meta.After(small, s, nil); e != api.OK || !same(x, busy()) {
		t.Error(x, e)
	}
}

// P21.3: more extents than a slot has room for, ahead and behind.
func TestAfterCrowded(t *testing.T) {
	s := empty(crowded)
	for i := range 63 {
		s.Extents = append(s.Extents, extent(2*i, 1, 2+i%20, i%8))
	}
	want := s
	want.Extents = append(slices.Clone(s.Extents), extent(125, 1, 255, 0))
	if x, e := meta.After(crowded, s, []api.Delta{hole(125, 1)}); e != api.OK || !same(x, want) {
		t.Error(x, e)
	}
	s.Extents[3].N = 0
	if x, e := meta.After(crowded, s, nil); e != api.ErrArg || !none(x) {
		t.Error(x, e)
	}
}

// P21.3: what is refused, what the chapter names first ahead.
func TestAfterRefused(t *testing.T) {
	refused := func(x api.Geom, s api.State, want api.Errno, l ...api.Delta) {
		t.Helper()
		if after, e := meta.After(x, s, l); e != want || !none(after) {
			t.Errorf("%v, %v: %v %d, not %d", s, l, after, e, want)
		}
	}
	right := []api.Delta{hole(0, 1), home(0, 255), bad(3)}
	ranges := []api.Delta{hole(29, 2), hole(30, 1), put(30, 1, 3, 0), put(1<<32-1, 1, 1, 0), home(2, 3), home(1<<32-1, 255)}
	args := []api.Delta{{}, {Kind: 5}, {Kind: -1}, hole(0, 0), put(0, 1, 1, 0), put(0, 1, 7, 0), put(0, 1, 255, 0), put(0, 2, 3, 15), home(-1, 3), home(0, 144), home(0, -1), bad(-1), bad(144), bad(255), {Kind: api.DeltaBad, Zone: 3, N: 1}}
	zones := []api.Delta{home(0, 0), home(0, 1), home(1, 7), home(1, 143), bad(0), bad(1), bad(7), bad(143)}
	for _, x := range brokenGeoms() {
		refused(x, busy(), api.ErrGeom)
		refused(x, api.State{}, api.ErrGeom, ranges[0], args[0], zones[0])
	}
	for _, s := range append(broken(), empty(narrow), empty(odd)) {
		refused(small, s, api.ErrArg)
		refused(small, s, api.ErrArg, right...)
		refused(small, s, api.ErrArg, ranges...)
	}
	for _, c := range []struct {
		l    []api.Delta
		code api.Errno
	}{{ranges, api.ErrRange}, {args, api.ErrArg}, {zones, api.ErrArg}} {
		for _, d := range c.l {
			refused(small, busy(), c.code, d)
			refused(small, busy(), c.code, append(slices.Clone(right), d)...)
			refused(small, busy(), c.code, append([]api.Delta{d}, right...)...)
		}
	}
	// What the map refuses is told first, wherever it stands.
	for _, d := range zones {
		refused(small, busy(), api.ErrRange, d, ranges[0])
		refused(small, busy(), api.ErrRange, ranges[0], d)
	}
	refused(small, busy(), api.ErrRange, ranges[0], args[0])
	refused(small, busy(), api.ErrArg, args[0], ranges[0])
}
