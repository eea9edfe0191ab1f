package page_test

import (
	"math"
	"slices"
	"testing"

	"thatch/api"
	"thatch/geom"
	"thatch/page"
)

func g(conv, seq, length, limit, cache int) api.Geom {
	return api.Geom{Conv: conv, Seq: seq, Len: length, Limit: limit, Cache: cache}
}

func put(at, n, zone, off int) api.Extent {
	return api.Extent{At: at, N: n, Zone: zone, Off: off}
}

func nothing(at, n int) api.Extent { return put(at, n, api.NoZone, 0) }

// example is the geometry of the chapter's example: 5 bands, 75 sectors, zones 2
// to 9 are sequential; wide has 14322 sectors, some of them behind multiples of
// 4096, and zones 2 to 17.
var (
	example = g(2, 8, 16, 3, 2)
	wide    = g(2, 16, 1024, 3, 1)
)

// wholeGeoms are geometries that may be, at the edges too.
func wholeGeoms() []api.Geom {
	return []api.Geom{
		example, wide, g(2, 4, 8, 2, 1), g(2, 4, 8, 4, 2), g(16, 128, 1024, 128, 126), g(16, 128, 1024, 2, 1),
		g(3, 6, 12, 3, 2), g(2, 58, 8, 2, 1), g(2, 128, 8, 2, 126), g(2, 7, 13, 4, 3), g(2, 4, 683, 2, 2), g(5, 9, 17, 3, 4),
	}
}

// brokenGeoms are geometries that may not be.
func brokenGeoms() []api.Geom {
	l := []api.Geom{{}, g(1, 8, 16, 3, 2), g(17, 8, 16, 3, 2), g(2, 3, 16, 2, 1), g(2, 8, 7, 3, 2), g(2, 8, 16, 1, 2), g(2, 8, 16, 3, 0), g(2, 8, 16, 3, 7), g(2, 59, 8, 2, 1)}
	for _, x := range []int{math.MinInt, -1, 0, 1 << 20, math.MaxInt} {
		l = append(l, g(x, 8, 16, 3, 2), g(2, x, 16, 3, 2), g(2, 8, x, 3, 2), g(2, 8, 16, x, 2), g(2, 8, 16, 3, x), g(x, x, x, x, x))
	}
	return l
}

// layout is what follows from a geometry that may be.
func layout(t *testing.T, x api.Geom) api.Layout {
	t.Helper()
	l, e := geom.Layout(x)
	if e != api.OK {
		t.Fatal(x, e)
	}
	return l
}

// P11.1: extents that may be, at each edge, and such as may not be, by one number
// alone.
func TestMayExtent(t *testing.T) {
	for _, c := range []struct {
		x    api.Extent
		want bool
	}{
		{put(0, 1, 2, 0), true}, {put(74, 1, 9, 15), true}, {put(0, 16, 5, 0), true}, {put(60, 15, 2, 1), true}, {put(7, 16, 4, 0), true},
		{nothing(0, 1), true}, {nothing(0, 75), true}, {nothing(74, 1), true},
		{put(0, 0, 2, 0), false}, {put(0, -1, 2, 0), false}, {put(0, math.MinInt, 2, 0), false}, {put(0, math.MaxInt, 2, 0), false}, {nothing(0, 0), false},
		{put(75, 1, 2, 0), false}, {put(74, 2, 2, 0), false}, {put(-1, 1, 2, 0), false}, {put(-1, 2, 2, 0), false}, {nothing(0, 76), false}, {nothing(1, 75), false},
		{put(math.MaxInt, 1, 2, 0), false}, {put(math.MinInt, 1, 2, 0), false}, {put(math.MaxInt, math.MaxInt, 2, 0), false}, {nothing(1<<40, 1), false},
		{put(0, 1, 0, 0), false}, {put(0, 1, 1, 0), false}, {put(0, 1, 10, 0), false}, {put(0, 1, -1, 0), false}, {put(0, 1, 254, 0), false}, {put(0, 1, 256, 0), false},
		{put(0, 1, math.MinInt, 0), false}, {put(0, 1, math.MaxInt, 0), false}, {put(0, 1, 2+256, 0), false},
		{put(0, 1, 2, 16), false}, {put(0, 2, 2, 15), false}, {put(0, 16, 2, 1), false}, {put(0, 17, 2, 0), false}, {put(0, 17, 2, -1), false},
		{put(0, 1, 2, -1), false}, {put(0, 1, 2, math.MinInt), false}, {put(0, 1, 2, math.MaxInt), false},
		{put(0, 1, api.NoZone, 1), false}, {put(0, 1, api.NoZone, -1), false}, {put(0, 1, api.NoZone, math.MaxInt), false},
	} {
		if page.MayExtent(example, c.x) != c.want {
			t.Errorf("%v: not %t", c.x, c.want)
		}
	}
	for _, x := range brokenGeoms() {
		if page.MayExtent(x, put(0, 1, 2, 0)) || page.MayExtent(x, nothing(0, 1)) {
			t.Errorf("%v: an extent may be", x)
		}
	}
}

// P11.1: no extent goes over a multiple of 4096.
func TestMayExtentLong(t *testing.T) {
	for m := 0; m <= 12288; m += 4096 {
		for before := range 4 {
			for behind := range 4 {
				at, n := m-before, before+behind
				want := at >= 0 && n > 0 && (before == 0 || behind == 0)
				if page.MayExtent(wide, nothing(at, n)) != want || page.MayExtent(wide, put(at, n, 17, 1024-n)) != want {
					t.Errorf("at %d, %d: not %t", at, n, want)
				}
			}
		}
	}
	if !page.MayExtent(wide, nothing(4096, 4096)) || page.MayExtent(wide, nothing(4096, 4097)) || page.MayExtent(wide, nothing(4095, 4096)) || page.MayExtent(wide, nothing(0, 8192)) {
		t.Error("extents of 4096")
	}
	if !page.MayExtent(wide, put(4096, 1024, 2, 0)) || page.MayExtent(wide, put(4096, 1025, 2, 0)) {
		t.Error("a whole zone")
	}
	if !page.MayExtent(wide, nothing(14321, 1)) || page.MayExtent(wide, nothing(14322, 1)) {
		t.Error("the last sector")
	}
}

// plain is a state of the example's geometry, like any other.
func plain() api.State {
	return api.State{
		Upto:    77,
		Homes:   []int{255, 9, 2, 255, 2},
		Bad:     []bool{false, true, false, false, false, false, true, true},
		Extents: []api.Extent{put(0, 3, 4, 1), nothing(3, 2), put(5, 16, 9, 0), put(30, 1, 4, 1), nothing(31, 44)},
	}
}

// with is plain, with something else.
func with(change func(s *api.State)) api.State {
	s := plain()
	change(&s)
	return s
}

// full is a state that has as many extents as a geometry lets it have.
func full(t *testing.T, x api.Geom) api.State {
	l := layout(t, x)
	s := api.State{Upto: api.MaxRecord, Bad: make([]bool, x.Seq)}
	for i := range l.Bands {
		s.Homes = append(s.Homes, x.Conv+i%x.Seq)
	}
	for i := range min(l.Extents, l.Sectors) {
		s.Extents = append(s.Extents, put(i, 1, x.Conv+x.Seq-1-i%x.Seq, x.Len-1))
		s.Bad[i%x.Seq] = i%3 == 0
	}
	return s
}

// whole are states of the example's geometry that may be, at the edges too.
func whole(t *testing.T) []api.State {
	empty := api.State{Homes: []int{255, 255, 255, 255, 255}, Bad: make([]bool, 8)}
	return []api.State{
		plain(), empty, full(t, example),
		with(func(s *api.State) { s.Upto = 0 }), with(func(s *api.State) { s.Upto = 1 << 40 }),
		with(func(s *api.State) { s.Homes = []int{2, 3, 9, 4, 255} }), with(func(s *api.State) { s.Bad = slices.Repeat([]bool{true}, 8) }),
		with(func(s *api.State) { s.Extents = nil }), with(func(s *api.State) { s.Extents = []api.Extent{nothing(0, 75)} }),
		with(func(s *api.State) { s.Extents = []api.Extent{put(1, 1, 3, 1), put(2, 1, 3, 2), put(3, 1, 3, 2)} }),
	}
}

// broken are states of the example's geometry that may not be.
func broken(t *testing.T) []api.State {
	l := []api.State{{}}
	for _, n := range []int{math.MinInt, -1, 1<<40 + 1, math.MaxInt} {
		l = append(l, with(func(s *api.State) { s.Upto = n }))
	}
	for _, zone := range []int{math.MinInt, -1, 0, 1, 10, 143, 254, 256, 2 + 256, math.MaxInt} {
		for i := range 5 {
			l = append(l, with(func(s *api.State) { s.Homes[i] = zone }))
		}
	}
	l = append(l,
		with(func(s *api.State) { s.Homes = nil }), with(func(s *api.State) { s.Homes = s.Homes[:4] }), with(func(s *api.State) { s.Homes = append(s.Homes, 255) }),
		with(func(s *api.State) { s.Bad = nil }), with(func(s *api.State) { s.Bad = s.Bad[:7] }), with(func(s *api.State) { s.Bad = append(s.Bad, false) }),
	)
	// Extents that may be each for itself, and not together.
	for _, x := range [][]api.Extent{
		{put(5, 1, 3, 0), put(5, 1, 3, 0)}, {put(5, 2, 3, 0), put(6, 1, 3, 1)}, {nothing(5, 2), nothing(6, 2)}, {put(6, 1, 3, 0), put(5, 1, 3, 0)},
		{put(0, 1, 3, 0), put(5, 9, 3, 0), put(6, 1, 4, 0)}, {put(0, 9, 3, 0), put(1, 1, 3, 0), put(9, 1, 3, 0)}, {nothing(60, 5), nothing(0, 5)},
	} {
		l = append(l, with(func(s *api.State) { s.Extents = x }))
	}
	for _, x := range []api.Extent{{}, put(74, 2, 3, 0), put(74, 0, 3, 0), put(74, 1, 1, 0), put(74, 1, 10, 0), put(74, 1, 3, 16), put(74, 1, 3, -1), put(74, 1, 255, 1), put(-1, 1, 3, 0)} {
		l = append(l, with(func(s *api.State) { s.Extents = []api.Extent{x} }), with(func(s *api.State) { s.Extents = []api.Extent{put(0, 1, 3, 0), x} }))
	}
	return append(l, with(func(s *api.State) {
		s.Extents = append(full(t, example).Extents, put(74, 1, 3, 0))
	}))
}

// P11.1: states that may be, and such as may not be.
func TestMay(t *testing.T) {
	for _, s := range whole(t) {
		if !page.May(example, s) {
			t.Errorf("may not be: %v", s)
		}
		for _, x := range brokenGeoms() {
			if page.May(x, s) {
				t.Errorf("may be of %v", x)
			}
		}
		if page.May(wide, s) || page.May(g(2, 8, 16, 3, 3), s) || page.May(g(2, 8, 17, 3, 3), s) {
			t.Errorf("may be of another geometry: %v", s)
		}
	}
	for _, s := range broken(t) {
		if page.May(example, s) {
			t.Errorf("may be: %v", s)
		}
	}
	for _, x := range wholeGeoms() {
		s := full(t, x)
		if !page.May(x, s) {
			t.Errorf("%v: a full one may not be", x)
		}
	}
}

// P11.1: as many extents as the layout says, where the sectors are enough for one
// more.
func TestMayCrowded(t *testing.T) {
	for _, x := range []api.Geom{example, wide, g(16, 128, 1024, 2, 1)} {
		l := layout(t, x)
		if l.Sectors <= l.Extents {
			t.Fatal(x)
		}
		s := full(t, x)
		if len(s.Extents) != l.Extents || !page.May(x, s) {
			t.Errorf("%v: %d extents", x, len(s.Extents))
		}
		s.Extents = append(s.Extents, put(l.Extents, 1, x.Conv, 0))
		if page.May(x, s) {
			t.Errorf("%v: %d extents", x, len(s.Extents))
		}
		if p, e := page.Encode(x, 1, s); e != api.ErrArg || len(p) != 0 {
			t.Errorf("%v: %d pages of one extent too many, %d", x, len(p), e)
		}
	}
}

// P11.1, P11.3: pages are so many as the bytes of a stream fill, and fit a slot.
func TestPages(t *testing.T) {
	for _, x := range wholeGeoms() {
		l := layout(t, x)
		for n := range l.Extents + 1 {
			left, want := 40+2*l.Bands+(x.Seq+7)/8+16*n, 0
			for ; left > 0; left -= 96 {
				want++
			}
			if got := page.Pages(x, n); got != want || got > l.Slot {
				t.Fatalf("%v: %d extents: %d pages, not %d", x, n, got, want)
			}
		}
		for _, n := range []int{math.MinInt, -1, l.Extents + 1, l.Extents + 2, 1 << 32, math.MaxInt} {
			if got := page.Pages(x, n); got != 0 {
				t.Errorf("%v: %d extents: %d pages", x, n, got)
			}
		}
	}
	for _, x := range brokenGeoms() {
		for _, n := range []int{-1, 0, 1, 38} {
			if got := page.Pages(x, n); got != 0 {
				t.Errorf("%v: %d pages", x, got)
			}
		}
	}
	if page.Pages(example, 0) != 1 || page.Pages(example, 2) != 1 || page.Pages(example, 3) != 2 || page.Pages(example, 38) != 7 {
		t.Error("pages of the example")
	}
}

// P11.1: the state in which there is nothing.
func TestEmpty(t *testing.T) {
	for _, x := range wholeGeoms() {
		s, e := page.Empty(x)
		l := layout(t, x)
		if e != api.OK || s.Upto != 0 || len(s.Homes) != l.Bands || len(s.Bad) != x.Seq || len(s.Extents) != 0 {
			t.Fatalf("%v: %v %d", x, s, e)
		}
		if slices.ContainsFunc(s.Homes, func(zone int) bool { return zone != api.NoZone }) || slices.Contains(s.Bad, true) || !page.May(x, s) {
			t.Errorf("%v: %v", x, s)
		}
	}
	for _, x := range brokenGeoms() {
		if s, e := page.Empty(x); e != api.ErrGeom || !page.Same(s, api.State{}) {
			t.Errorf("%v: %v %d", x, s, e)
		}
	}
}

// P11.1: states that are the same, and such as are not, by one thing alone.
func TestSame(t *testing.T) {
	for _, s := range append(whole(t), broken(t)...) {
		other := api.State{Upto: s.Upto, Homes: slices.Clone(s.Homes), Bad: slices.Clone(s.Bad), Extents: slices.Clone(s.Extents)}
		if !page.Same(s, s) || !page.Same(s, other) {
			t.Errorf("not the same as itself: %v", s)
		}
	}
	others := []api.State{
		with(func(s *api.State) { s.Upto++ }), with(func(s *api.State) { s.Homes[4] = 3 }), with(func(s *api.State) { s.Homes = s.Homes[:4] }), with(func(s *api.State) { s.Homes = nil }),
		with(func(s *api.State) { s.Homes = append(s.Homes, 0) }), with(func(s *api.State) { s.Bad[0] = true }), with(func(s *api.State) { s.Bad = s.Bad[:7] }), with(func(s *api.State) { s.Bad = append(s.Bad, false) }),
		with(func(s *api.State) { s.Extents = nil }), with(func(s *api.State) { s.Extents = s.Extents[:4] }), with(func(s *api.State) { s.Extents = append(s.Extents, api.Extent{}) }),
		with(func(s *api.State) { slices.Reverse(s.Extents) }), with(func(s *api.State) { slices.Reverse(s.Homes) }), with(func(s *api.State) { slices.Reverse(s.Bad) }),
		with(func(s *api.State) { s.Extents[1].At++ }), with(func(s *api.State) { s.Extents[1].N++ }), with(func(s *api.State) { s.Extents[1].Zone++ }), with(func(s *api.State) { s.Extents[1].Off++ }),
	}
	for i, a := range others {
		if page.Same(a, plain()) || page.Same(plain(), a) {
			t.Errorf("the same as plain: %v", a)
		}
		for k, b := range others {
			if page.Same(a, b) != (i == k) {
				t.Errorf("%v, %v", a, b)
			}
		}
	}
	if !page.Same(api.State{Homes: []int{}, Bad: []bool{}, Extents: []api.Extent{}}, api.State{}) {
		t.Error("nil and the empty list")
	}
}
