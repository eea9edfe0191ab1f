package valid_test

import (
	"iter"
	"maps"
	"slices"
	"testing"

	"thatch/api"
	"thatch/span"
	"thatch/valid"
)

// zonesOf is what an iterator of zones goes over, in its order.
func zonesOf(seq iter.Seq2[int, int]) [][2]int {
	var l [][2]int
	for zone, n := range seq {
		l = append(l, [2]int{zone, n})
	}
	return l
}

// wantAll wants all that the calls answer of extents that may be.
func wantAll(t *testing.T, x api.Geom, l []api.Extent) {
	t.Helper()
	all := places(x, l)
	if !valid.May(x, l) || valid.Apart(x, l) != plainApart(all) {
		t.Errorf("%v may be: %t, apart: %t", l, valid.May(x, l), valid.Apart(x, l))
	}
	counts := plainCounts(x, all)
	if got, e := valid.Counts(x, l); e != api.OK || !slices.Equal(got, counts) {
		t.Errorf("%v: counts %v %d, not %v", l, got, e, counts)
	}
	var zones [][2]int
	for i, n := range counts {
		wantZone(t, x, l, all, x.Conv+i)
		if n > 0 {
			zones = append(zones, [2]int{x.Conv + i, n})
		}
	}
	if got := zonesOf(valid.Zones(x, l)); !slices.Equal(got, zones) {
		t.Errorf("%v: zones %v, not %v", l, got, zones)
	}
	touched := plainBands(x, all, func(w where) bool { return w.zone != none })
	if got, e := valid.Touched(x, l); e != api.OK || !slices.Equal(got, touched) {
		t.Errorf("%v: touched %v %d, not %v", l, got, e, touched)
	}
}

// wantZone wants what is answered of one zone.
func wantZone(t *testing.T, x api.Geom, l []api.Extent, all []where, zone int) {
	t.Helper()
	live := plainLive(x, all, zone)
	if got, e := valid.Live(x, l, zone); e != api.OK || !slices.Equal(got, live) {
		t.Errorf("%v: of zone %d live %v %d, not %v", l, zone, got, e, live)
	}
	bands := plainBands(x, all, func(w where) bool { return w.zone == zone })
	if got, e := valid.Bands(x, l, zone); e != api.OK || !slices.Equal(got, bands) {
		t.Errorf("%v: of zone %d bands %v %d, not %v", l, zone, got, e, bands)
	}
}

// wantRefused wants an error of each call that answers one, false, and nothing
// to go over.
func wantRefused(t *testing.T, x api.Geom, l []api.Extent, want api.Errno) {
	t.Helper()
	if valid.May(x, l) || valid.Apart(x, l) {
		t.Errorf("%v of %v may be", l, x)
	}
	if got, e := valid.Counts(x, l); e != want || len(got) > 0 {
		t.Errorf("%v of %v: counts %v %d", l, x, got, e)
	}
	if got, e := valid.Touched(x, l); e != want || len(got) > 0 {
		t.Errorf("%v of %v: touched %v %d", l, x, got, e)
	}
	if got := zonesOf(valid.Zones(x, l)); len(got) > 0 {
		t.Errorf("%v of %v: zones %v", l, x, got)
	}
	for _, zone := range append(noZones(x), 2, 3) {
		wantZoneRefused(t, x, l, zone, want)
	}
}

func wantZoneRefused(t *testing.T, x api.Geom, l []api.Extent, zone int, want api.Errno) {
	t.Helper()
	if got, e := valid.Live(x, l, zone); e != want || len(got) > 0 {
		t.Errorf("%v of %v, zone %d: live %v %d", l, x, zone, got, e)
	}
	if got, e := valid.Bands(x, l, zone); e != want || len(got) > 0 {
		t.Errorf("%v of %v, zone %d: bands %v %d", l, x, zone, got, e)
	}
}

// P13.1: geometries, lists and zones that may not be, the geometry ahead of the rest.
func TestRefused(t *testing.T) {
	for _, x := range brokenGeoms() {
		for _, l := range [][]api.Extent{nil, {}, {put(0, 1, 3, 0)}, {nothing(0, 1)}, {put(0, 0, 3, 0)}, {put(5, 1, 3, 0), put(4, 1, 3, 1)}} {
			wantRefused(t, x, l, api.ErrGeom)
		}
	}
	for _, l := range brokenLists() {
		wantRefused(t, small, l, api.ErrArg)
	}
	for _, x := range wholeGeoms() {
		wantRefused(t, x, []api.Extent{put(0, 1, 1, 0)}, api.ErrArg)
		for _, zone := range noZones(x) {
			wantZoneRefused(t, x, nil, zone, api.ErrArg)
			wantZoneRefused(t, x, []api.Extent{nothing(0, 1)}, zone, api.ErrArg)
		}
	}
}

// P13.1: what may be, by small lists, each of which goes to an edge.
func TestMay(t *testing.T) {
	for _, l := range [][]api.Extent{
		nil,
		{},
		{put(0, 5, 3, 2)},
		{nothing(0, 45)},
		{put(44, 1, 7, 15)},
		{put(0, 16, 2, 0), put(16, 16, 7, 0), nothing(32, 13)},
		// They touch, and might be one extent.
		{put(0, 2, 3, 0), put(2, 2, 3, 2), put(4, 2, 3, 4)},
		{nothing(0, 2), nothing(2, 2)},
		// Two and more lie at the same place, in part or as a whole.
		{put(0, 4, 3, 0), put(4, 4, 3, 0)},
		{put(0, 4, 3, 0), put(4, 4, 3, 3)},
		{put(0, 4, 3, 3), put(4, 4, 3, 0)},
		{put(0, 8, 3, 4), put(8, 1, 3, 7)},
		{put(0, 1, 3, 7), put(8, 8, 3, 4)},
		{put(0, 1, 3, 7), put(8, 1, 3, 7), put(12, 1, 3, 7)},
		{put(0, 4, 3, 0), nothing(4, 1), put(20, 4, 5, 0), put(30, 1, 3, 3)},
		// At the same sectors, of different zones; one behind the other.
		{put(0, 4, 3, 0), put(4, 4, 4, 0)},
		{put(0, 4, 3, 4), put(4, 4, 3, 0), put(8, 4, 3, 8)},
		// Not rising by place.
		{put(0, 2, 5, 9), put(3, 2, 5, 3), put(6, 2, 5, 6), put(9, 2, 5, 0)},
	} {
		wantAll(t, small, l)
	}
	for _, x := range wholeGeoms() {
		if !valid.May(x, nil) || !valid.Apart(x, nil) || len(zonesOf(valid.Zones(x, nil))) > 0 {
			t.Errorf("no extents of %v", x)
		}
		if c, e := valid.Counts(x, nil); e != api.OK || !slices.Equal(c, make([]int, x.Seq)) {
			t.Errorf("no extents of %v: counts %v %d", x, c, e)
		}
	}
}

// P13.1: multiples of MaxExtent, over which no extent goes.
func TestLongExtents(t *testing.T) {
	for _, c := range []struct {
		x    api.Extent
		want bool
	}{
		{nothing(0, 4096), true}, {nothing(0, 4097), false}, {nothing(4096, 4096), true}, {nothing(4095, 1), true}, {nothing(4095, 2), false}, {nothing(1, 4096), false},
		{put(4090, 6, 2, 0), true}, {put(4090, 7, 2, 0), false}, {put(4096, 1024, 2, 0), true}, {put(4096, 1024, 2, 1), false}, {put(8191, 1, 17, 1023), true}, {put(8191, 2, 17, 0), false},
		{nothing(14321, 1), true}, {nothing(14321, 2), false},
	} {
		l := []api.Extent{c.x}
		if valid.May(wide, l) != c.want {
			t.Errorf("%v: not %t", c.x, c.want)
		}
		if _, e := valid.Counts(wide, l); (e == api.OK) != c.want {
			t.Errorf("%v: %d", c.x, e)
		}
	}
}

// P13.1: bands over whose ends an extent goes, of one that goes over several of
// them too.
func TestBandsEnds(t *testing.T) {
	l := []api.Extent{put(14, 2, 4, 0), put(30, 1, 5, 0)}
	for zone, want := range map[int][]int{4: {0, 1}, 5: {2}, 6: nil} {
		if got, e := valid.Bands(small, l, zone); e != api.OK || !slices.Equal(got, want) {
			t.Errorf("zone %d: %v %d", zone, got, e)
		}
	}
	// A whole zone is a sector longer than a band.
	if got, e := valid.Bands(small, []api.Extent{put(14, 16, 4, 0)}, 4); e != api.OK || !slices.Equal(got, []int{0, 1}) {
		t.Errorf("a whole zone: %v %d", got, e)
	}
	for _, c := range []struct {
		l    []api.Extent
		want []int
	}{
		{[]api.Extent{nothing(0, 45)}, []int{0, 1, 2}},
		{[]api.Extent{nothing(0, 15)}, []int{0}},
		{[]api.Extent{nothing(15, 15)}, []int{1}},
		{[]api.Extent{nothing(14, 17)}, []int{0, 1, 2}},
		{[]api.Extent{put(2, 1, 3, 0), nothing(3, 1), put(44, 1, 3, 1)}, []int{0, 2}},
	} {
		if got, e := valid.Touched(small, c.l); e != api.OK || !slices.Equal(got, c.want) {
			t.Errorf("%v: touched %v %d", c.l, got, e)
		}
	}
	long := []api.Extent{nothing(1023, 3073), put(5114, 2, 9, 7), nothing(8192, 1), put(14321, 1, 9, 0)}
	if got, e := valid.Touched(wide, long); e != api.OK || !slices.Equal(got, []int{1, 2, 3, 4, 5, 8, 13}) {
		t.Errorf("touched %v %d", got, e)
	}
	if got, e := valid.Bands(wide, long, 9); e != api.OK || !slices.Equal(got, []int{4, 5, 13}) {
		t.Errorf("bands %v %d", got, e)
	}
}

// P13.1, P13.2: many lists, against places sector by sector.
func TestLists(t *testing.T) {
	for _, x := range []api.Geom{small, g(2, 4, 8, 2, 1), g(3, 6, 12, 3, 2), g(5, 9, 17, 3, 4), g(2, 8, 40, 3, 2)} {
		for seed := range 300 {
			number := numbers(uint64(seed))
			wantAll(t, x, someList(x, number, seed%2 == 0))
		}
	}
}

// P13.1: more extents than a checkpoint has room for, and more in one zone than
// a set has spans.
func TestManyExtents(t *testing.T) {
	l := comb(wide, 5000, 3)
	if !valid.May(wide, l) || valid.Apart(wide, l) {
		t.Error("may not be, or is apart")
	}
	if got := zonesOf(valid.Zones(wide, l)); !slices.Equal(got, [][2]int{{3, 5000}}) {
		t.Error("zones", got)
	}
	live, e := valid.Live(wide, l, 3)
	if e != api.OK || len(live) != 512 || live[0] != s(0, 1) || live[511] != s(1022, 1) {
		t.Errorf("live: %d spans, %d", len(live), e)
	}
	if few := comb(wide, 512, 3); !valid.Apart(wide, few) {
		t.Error("each sector once")
	}
	if few := comb(wide, 513, 3); valid.Apart(wide, few) {
		t.Error("the first sector twice")
	}
}

// P13.2, P13.3: where all are apart as many sectors are live as lie there, and
// where they are not, in some zone fewer.
func TestApart(t *testing.T) {
	same := 0
	for seed := range 400 {
		l := someList(small, numbers(uint64(seed)), seed%2 == 0)
		more := false
		for zone, n := range valid.Zones(small, l) {
			live, e := valid.Live(small, l, zone)
			if e != api.OK || !span.IsSet(live) || span.Total(live) > n {
				t.Errorf("%v: zone %d: %v %d", l, zone, live, e)
			}
			more = more || span.Total(live) < n
		}
		if valid.Apart(small, l) == more {
			t.Errorf("%v: apart: %t", l, !more)
		}
		if more {
			same++
		}
	}
	if same < 50 || same > 200 {
		t.Error(same, "lists in which some are not apart")
	}
}

// P13.2, R5: an iterator begins anew, may be stopped, and goes within itself.
func TestZones(t *testing.T) {
	l := []api.Extent{put(0, 2, 7, 0), put(2, 3, 2, 5), nothing(5, 9), put(15, 4, 5, 0), put(30, 1, 2, 0)}
	want := [][2]int{{2, 4}, {5, 4}, {7, 2}}
	seq := valid.Zones(small, l)
	for range 3 {
		if got := zonesOf(seq); !slices.Equal(got, want) {
			t.Errorf("%v", got)
		}
	}
	for many := 1; many <= 3; many++ {
		var got [][2]int
		for zone, n := range seq {
			got = append(got, [2]int{zone, n})
			if len(got) == many {
				break
			}
		}
		if !slices.Equal(got, want[:many]) {
			t.Errorf("stopped behind %d: %v", many, got)
		}
	}
	pairs := 0
	for a := range seq {
		for b := range seq {
			if a < b {
				pairs++
			}
		}
	}
	if pairs != 3 || len(maps.Collect(seq)) != 3 {
		t.Error("within itself:", pairs)
	}
}

// wipe changes a list, and the room behind its end.
func wipe[T any](l []T, with T) {
	l = l[:cap(l)]
	for i := range l {
		l[i] = with
	}
}

// R3: what is handed in stays as it is and is not kept; answers are new.
func TestNothingShared(t *testing.T) {
	room := []api.Extent{put(0, 2, 3, 0), put(2, 2, 3, 4), nothing(5, 1), put(14, 2, 3, 2), put(17, 1, 4, 0), put(19, 1, 4, 0)}
	was := slices.Clone(room)
	l := room[:4]
	seq := valid.Zones(small, l)
	wantAll(t, small, l)
	for range 2 {
		counts, _ := valid.Counts(small, l)
		live, _ := valid.Live(small, l, 3)
		bands, _ := valid.Bands(small, l, 3)
		touched, _ := valid.Touched(small, l)
		if !slices.Equal(counts, []int{0, 6, 0, 0, 0, 0}) || !slices.Equal(live, []api.Span{s(0, 6)}) || !slices.Equal(bands, []int{0, 1}) || !slices.Equal(touched, []int{0, 1}) {
			t.Error(counts, live, bands, touched)
		}
		wipe(counts, -1)
		wipe(live, s(-1, -1))
		wipe(bands, -1)
		wipe(touched, -1)
	}
	if !slices.Equal(room, was) {
		t.Error("the list is changed", room)
	}
	wipe(room, put(0, 1, 7, 0))
	if got := zonesOf(seq); !slices.Equal(got, [][2]int{{3, 6}}) {
		t.Error("the list is kept", got)
	}
}
