package geom_test

import (
	"math"
	"slices"
	"testing"

	"thatch/api"
	"thatch/geom"
	"thatch/zdisk"
)

func g(conv, seq, length, limit, cache int) api.Geom {
	return api.Geom{Conv: conv, Seq: seq, Len: length, Limit: limit, Cache: cache}
}

func s(at, n int) api.Span { return api.Span{At: at, N: n} }

// example is the geometry of the chapter's example.
var example = g(2, 8, 16, 3, 2)

// whole are geometries that may be, at the edges too.
func whole() []api.Geom {
	return []api.Geom{
		example,
		g(2, 4, 8, 2, 1), g(2, 4, 8, 4, 2), g(16, 128, 1024, 128, 126), g(16, 128, 1024, 2, 1),
		g(3, 6, 12, 3, 2), g(2, 5, 9, 2, 3), g(2, 5, 10, 5, 1), g(2, 5, 11, 2, 2), g(2, 7, 13, 4, 3),
		g(2, 58, 8, 2, 1), g(2, 59, 8, 2, 2), g(2, 128, 8, 2, 126), g(2, 4, 683, 2, 2), g(2, 4, 684, 2, 2),
		g(2, 4, 1024, 2, 1), g(3, 128, 8, 2, 1), g(5, 9, 17, 3, 4), g(16, 4, 8, 3, 1), g(7, 17, 33, 6, 5),
		g(2, 16, 12, 2, 12), g(2, 17, 12, 2, 13),
	}
}

// broken are geometries that may not be.
func broken() []api.Geom {
	l := []api.Geom{
		{}, g(1, 8, 16, 3, 2), g(17, 8, 16, 3, 2), g(2, 3, 16, 2, 1), g(2, 129, 16, 3, 60),
		g(2, 8, 7, 3, 2), g(2, 8, 1025, 3, 2), g(2, 8, 16, 1, 2), g(2, 8, 16, 9, 2), g(2, 8, 16, 3, 0), g(2, 8, 16, 3, 7), g(2, 8, 16, 3, 8),
		g(2, 59, 8, 2, 1), g(2, 128, 8, 2, 1), g(2, 128, 8, 2, 61), g(math.MinInt, math.MinInt, math.MinInt, math.MinInt, math.MaxInt),
		g(1<<32, 8, 1<<32, 3, 2), g(2, math.MinInt, 16, math.MinInt, 5), g(2, math.MaxInt, 16, 3, 2),
	}
	for _, x := range []int{math.MinInt, -16, -2, -1, 0, 1 << 20, 1 << 62, math.MaxInt} {
		l = append(l, g(x, 8, 16, 3, 2), g(2, x, 16, 3, 2), g(2, 8, x, 3, 2), g(2, 8, 16, x, 2), g(2, 8, 16, 3, x), g(x, x, x, x, x))
	}
	return l
}

// plainSlot is the length of a slot: a sector each to both, and two to the
// ring, as long as there are four behind the superblocks.
func plainSlot(x api.Geom) int {
	slot := 0
	for left := x.Conv*x.Len - 2; left >= 4; left -= 4 {
		slot++
	}
	return slot
}

// plainBands is how many sequential zones are left behind the cache's and a spare one.
func plainBands(x api.Geom) int { return x.Seq - x.Cache - 1 }

// plainExtents is how many extents are put into a slot, one by one.
func plainExtents(x api.Geom) int {
	used := 40 + 2*plainBands(x)
	for bit := 0; bit < x.Seq; bit += 8 {
		used++
	}
	n := 0
	for n < 2048 && used+16*(n+1) <= 96*plainSlot(x) {
		n++
	}
	return n
}

// plainLayout is what follows from a geometry that may be.
func plainLayout(x api.Geom) api.Layout {
	slot, bands := plainSlot(x), plainBands(x)
	l := api.Layout{Slot: slot, Ring: 2 + slot + slot, Bands: bands, BandLen: x.Len - 1, Extents: plainExtents(x), Run: 8}
	for range x.Conv*x.Len - l.Ring {
		l.RingLen++
	}
	for range bands {
		l.Sectors += x.Len - 1
	}
	if x.Len < 10 {
		l.Run = x.Len - 2
	}
	return l
}

// plainMay tells whether a geometry may be.
func plainMay(x api.Geom) bool {
	if x.Conv < 2 || x.Seq < 4 || x.Len < 8 || x.Limit < 2 || x.Cache < 1 || x.Cache > x.Seq-2 {
		return false
	}
	_, e := zdisk.New(api.Shape{Conv: x.Conv, Seq: x.Seq, Len: x.Len, Limit: x.Limit})
	return e == api.OK && plainExtents(x) >= 8 && x.Conv*x.Len-2-2*plainSlot(x) >= 8
}

func wantSpan(t *testing.T, what string, got, want api.Span) {
	t.Helper()
	if got != want {
		t.Errorf("%s: %v, not %v", what, got, want)
	}
}

// P7.1: which geometries may be, and what follows from them.
func TestMayLayout(t *testing.T) {
	try := func(x api.Geom) {
		may, want, code := plainMay(x), api.Layout{}, api.ErrGeom
		if may {
			want, code = plainLayout(x), api.OK
		}
		if geom.May(x) != may {
			t.Errorf("%v may be: %t", x, !may)
		}
		if l, e := geom.Layout(x); l != want || e != code {
			t.Errorf("%v: %v %d, not %v %d", x, l, e, want, code)
		}
	}
	for _, x := range append(whole(), broken()...) {
		try(x)
	}
	// Each number about each of its bounds, beside several of the others.
	for _, conv := range []int{1, 2, 3, 16, 17} {
		for _, seq := range []int{3, 4, 5, 8, 9, 57, 58, 59, 127, 128, 129} {
			for _, length := range []int{7, 8, 9, 10, 11, 1024, 1025} {
				for _, limit := range []int{0, 1, 2, seq, seq + 1} {
					for _, cache := range []int{0, 1, 2, seq / 2, seq - 3, seq - 2, seq - 1} {
						try(g(conv, seq, length, limit, cache))
					}
				}
			}
		}
	}
}

// P7.1: the lists of this file are what they say.
func TestLists(t *testing.T) {
	for _, x := range whole() {
		if !geom.May(x) {
			t.Errorf("%v may not be", x)
		}
	}
	for _, x := range broken() {
		if geom.May(x) {
			t.Errorf("%v may be", x)
		}
	}
}

// P7.1: layouts that were reckoned by hand.
func TestLayoutByHand(t *testing.T) {
	for x, want := range map[api.Geom]api.Layout{
		example:                    {Slot: 7, Ring: 16, RingLen: 16, Bands: 5, BandLen: 15, Sectors: 75, Extents: 38, Run: 8},
		g(2, 4, 8, 2, 1):           {Slot: 3, Ring: 8, RingLen: 8, Bands: 2, BandLen: 7, Sectors: 14, Extents: 15, Run: 6},
		g(2, 58, 8, 2, 1):          {Slot: 3, Ring: 8, RingLen: 8, Bands: 56, BandLen: 7, Sectors: 392, Extents: 8, Run: 6},
		g(2, 5, 9, 2, 3):           {Slot: 4, Ring: 10, RingLen: 8, Bands: 1, BandLen: 8, Sectors: 8, Extents: 21, Run: 7},
		g(16, 128, 1024, 128, 126): {Slot: 4095, Ring: 8192, RingLen: 8192, Bands: 1, BandLen: 1023, Sectors: 1023, Extents: 2048, Run: 8},
		g(16, 128, 1024, 128, 1):   {Slot: 4095, Ring: 8192, RingLen: 8192, Bands: 126, BandLen: 1023, Sectors: 128898, Extents: 2048, Run: 8},
		g(2, 4, 683, 2, 2):         {Slot: 341, Ring: 684, RingLen: 682, Bands: 1, BandLen: 682, Sectors: 682, Extents: 2043, Run: 8},
		g(2, 4, 684, 2, 2):         {Slot: 341, Ring: 684, RingLen: 684, Bands: 1, BandLen: 683, Sectors: 683, Extents: 2043, Run: 8},
		g(2, 4, 685, 2, 2):         {Slot: 342, Ring: 686, RingLen: 684, Bands: 1, BandLen: 684, Sectors: 684, Extents: 2048, Run: 8},
		g(2, 59, 8, 2, 1):          {},
		g(2, 128, 8, 128, 1):       {},
	} {
		if l, e := geom.Layout(x); l != want || (e == api.OK) != (want.Slot > 0) {
			t.Errorf("%v: %v %d, not %v", x, l, e, want)
		}
	}
}

// P7.1: the disk's shape.
func TestShapeSame(t *testing.T) {
	for _, x := range whole() {
		want := api.Shape{Conv: x.Conv, Seq: x.Seq, Len: x.Len, Limit: x.Limit}
		if got := geom.Shape(x); got != want || !geom.Same(x, want) {
			t.Errorf("%v: %v, the same: %t", x, got, geom.Same(x, want))
		}
		for _, other := range []api.Shape{
			{},
			{Conv: x.Conv + 1, Seq: x.Seq, Len: x.Len, Limit: x.Limit},
			{Conv: x.Conv, Seq: x.Seq - 1, Len: x.Len, Limit: x.Limit},
			{Conv: x.Conv, Seq: x.Seq, Len: x.Len * 2, Limit: x.Limit},
			{Conv: x.Conv, Seq: x.Seq, Len: x.Len, Limit: x.Limit - 1},
			{Conv: x.Seq, Seq: x.Conv, Len: x.Len, Limit: x.Limit + 200},
		} {
			if geom.Same(x, other) {
				t.Errorf("%v is of shape %v", x, other)
			}
		}
	}
}

// P7.1: what is answered of a geometry that may not be.
func TestBroken(t *testing.T) {
	for _, x := range broken() {
		if geom.Shape(x) != (api.Shape{}) || geom.Same(x, api.Shape{}) || geom.Same(x, api.Shape{Conv: x.Conv, Seq: x.Seq, Len: x.Len, Limit: x.Limit}) {
			t.Errorf("%v has a shape", x)
		}
		if l, e := geom.Layout(x); l != (api.Layout{}) || e != api.ErrGeom {
			t.Errorf("%v: %v %d", x, l, e)
		}
		for _, i := range []int{math.MinInt, -1, 0, 1, 2, 3, 4, 5, 9, math.MaxInt} {
			if geom.Slot(x, i) != (api.Span{}) || geom.Zone(x, i) != (api.Span{}) || geom.BandSpan(x, i) != (api.Span{}) {
				t.Errorf("%v has spans %d", x, i)
			}
			if geom.RingAt(x, i) != -1 || geom.IsSeq(x, i) {
				t.Errorf("%v has a record, or a zone %d", x, i)
			}
			if band, at := geom.Band(x, i); band != -1 || at != -1 {
				t.Errorf("%v has sector %d: %d, %d", x, i, band, at)
			}
			for _, n := range []int{math.MinInt, -1, 0, 1, 8, math.MaxInt} {
				if geom.Check(x, s(i, n)) != api.ErrGeom || len(geom.Runs(x, s(i, n))) != 0 {
					t.Errorf("%v has sectors %d, %d", x, i, n)
				}
			}
		}
	}
}

// P7.2: the sectors of slots.
func TestSlot(t *testing.T) {
	for _, x := range whole() {
		n := plainSlot(x)
		wantSpan(t, "slot 0", geom.Slot(x, 0), s(2, n))
		wantSpan(t, "slot 1", geom.Slot(x, 1), s(2+n, n))
		for _, i := range []int{math.MinInt, -2, -1, 2, 3, 4, math.MaxInt} {
			wantSpan(t, "no slot", geom.Slot(x, i), s(0, 0))
		}
	}
}

// P7.2: the sectors of records, more than once round.
func TestRingAt(t *testing.T) {
	for _, x := range whole() {
		l := plainLayout(x)
		at := l.Ring
		for n := range 2*l.RingLen + 3 {
			if got := geom.RingAt(x, n); got != at {
				t.Fatalf("%v: record %d at %d, not %d", x, n, got, at)
			}
			at++
			if at == x.Conv*x.Len {
				at = l.Ring
			}
		}
		for _, n := range []int{api.MaxRecord, api.MaxRecord - 1, math.MaxInt} {
			if got := geom.RingAt(x, n); got < l.Ring || got >= x.Conv*x.Len || (n-(got-l.Ring))%l.RingLen != 0 {
				t.Errorf("%v: record %d at %d", x, n, got)
			}
		}
		for _, n := range []int{-1, -2, -l.RingLen, math.MinInt} {
			if got := geom.RingAt(x, n); got != -1 {
				t.Errorf("%v: record %d at %d", x, n, got)
			}
		}
	}
}

// P7.2: zones, as the disk itself reports them.
func TestZoneIsSeq(t *testing.T) {
	for _, x := range whole() {
		d, e := zdisk.New(geom.Shape(x))
		if e != api.OK {
			t.Fatal(x, e)
		}
		for i := -3; i < x.Conv+x.Seq+3; i++ {
			z, e := d.Zone(i)
			if e != api.OK {
				z = api.Zone{}
			}
			wantSpan(t, "zone", geom.Zone(x, i), s(z.Start, z.Len))
			if got := geom.IsSeq(x, i); got != (z.Kind == api.KindSeq) {
				t.Errorf("%v: zone %d is sequential: %t", x, i, got)
			}
		}
		for _, i := range []int{math.MinInt, math.MaxInt, 1 << 32} {
			if geom.Zone(x, i) != (api.Span{}) || geom.IsSeq(x, i) {
				t.Errorf("%v has a zone %d", x, i)
			}
		}
	}
}

// P7.3, P7.4: each logical sector is in one band, whose span has it.
func TestBand(t *testing.T) {
	for _, x := range whole() {
		l := plainLayout(x)
		at := 0
		for band := range l.Bands {
			wantSpan(t, "band", geom.BandSpan(x, band), s(at, l.BandLen))
			for i := range l.BandLen {
				if b, k := geom.Band(x, at); b != band || k != i {
					t.Fatalf("%v: sector %d is %d of band %d, not %d of %d", x, at, k, b, i, band)
				}
				at++
			}
		}
		if at != l.Sectors {
			t.Errorf("%v: %d sectors in bands, not %d", x, at, l.Sectors)
		}
		for _, at := range []int{math.MinInt, -l.BandLen, -1, l.Sectors, l.Sectors + 1, l.Sectors + l.BandLen, api.MaxAt, math.MaxInt} {
			if b, k := geom.Band(x, at); b != -1 || k != -1 {
				t.Errorf("%v: sector %d is %d of band %d", x, at, k, b)
			}
		}
		for _, band := range []int{math.MinInt, -1, l.Bands, l.Bands + 1, 1 << 62, math.MaxInt} {
			wantSpan(t, "no band", geom.BandSpan(x, band), s(0, 0))
		}
	}
}

// spans are spans at and about the edges of a device.
func spans(l api.Layout) []api.Span {
	var places []int
	for _, edge := range []int{0, l.Run, l.BandLen, 2 * l.BandLen, l.Sectors - l.BandLen, l.Sectors - l.Run, l.Sectors} {
		places = append(places, edge-1, edge, edge+1)
	}
	slices.Sort(places)
	places = slices.Compact(places)
	var all []api.Span
	for _, from := range places {
		for _, to := range places {
			all = append(all, s(from, to-from))
		}
		for _, n := range []int{math.MinInt, api.MaxAt - from, api.MaxAt - from + 1, api.MaxAt, math.MaxInt} {
			all = append(all, s(from, n), s(n, from), s(n, n))
		}
	}
	return all
}

// P7.3: which spans the device has.
func TestCheck(t *testing.T) {
	for _, x := range whole() {
		l := plainLayout(x)
		for _, y := range spans(l) {
			want := api.ErrRange
			if y.At >= 0 && y.At < l.Sectors && y.N >= 1 && y.N <= l.Sectors-y.At {
				want = api.OK
			}
			if got := geom.Check(x, y); got != want {
				t.Errorf("%v: %v is %d, not %d", x, y, got, want)
			}
		}
	}
}

// plainRuns cuts sector by sector: a piece ends where it is as long as it may
// be, or the band ends.
func plainRuns(l api.Layout, y api.Span) []api.Span {
	var runs []api.Span
	for at := y.At; at < y.At+y.N; at++ {
		k := len(runs) - 1
		if k < 0 || at%l.BandLen == 0 || runs[k].N == l.Run {
			runs = append(runs, s(at, 0))
			k++
		}
		runs[k].N++
	}
	return runs
}

// P7.3: pieces within a band that can be written at once.
func TestRuns(t *testing.T) {
	for _, x := range whole() {
		l := plainLayout(x)
		for _, y := range spans(l) {
			var want []api.Span
			if y.At >= 0 && y.N >= 1 && y.At <= l.Sectors && y.N <= l.Sectors-y.At {
				want = plainRuns(l, y)
			}
			if got := geom.Runs(x, y); !slices.Equal(got, want) {
				t.Fatalf("%v: %v is cut to %v, not %v", x, y, got, want)
			}
		}
	}
}

// P7.3: all spans of a small device.
func TestRunsAll(t *testing.T) {
	for _, x := range []api.Geom{g(2, 5, 9, 2, 1), g(2, 5, 8, 2, 1), g(2, 5, 10, 2, 2), example} {
		l := plainLayout(x)
		for at := range l.Sectors {
			for n := 1; n <= l.Sectors-at; n++ {
				if got, want := geom.Runs(x, s(at, n)), plainRuns(l, s(at, n)); !slices.Equal(got, want) {
					t.Fatalf("%v: %v is cut to %v, not %v", x, s(at, n), got, want)
				}
			}
		}
	}
}

// P7.4: what the conventional sectors are for: one thing each.
func TestConventional(t *testing.T) {
	for _, x := range whole() {
		l, _ := geom.Layout(x)
		uses := make([]int, x.Conv*x.Len)
		use := func(what api.Span) {
			for i := range what.N {
				uses[what.At+i]++
			}
		}
		use(s(0, 2))
		use(geom.Slot(x, 0))
		use(geom.Slot(x, 1))
		for n := range l.RingLen {
			use(s(geom.RingAt(x, n), 1))
		}
		for at, n := range uses {
			if n != 1 {
				t.Errorf("%v: sector %d is for %d things", x, at, n)
			}
		}
		if l.Ring+l.RingLen != len(uses) || l.Bands*l.BandLen != l.Sectors {
			t.Errorf("%v: %v", x, l)
		}
	}
}

// R3: answers share nothing with one another.
func TestNothingShared(t *testing.T) {
	one, two := geom.Runs(example, s(0, 75)), geom.Runs(example, s(0, 75))
	clear(one[:cap(one)])
	if !slices.Equal(two, plainRuns(plainLayout(example), s(0, 75))) {
		t.Error("shared")
	}
	for _, y := range two[:cap(two)][len(two):] {
		if y != (api.Span{}) {
			t.Errorf("something behind the end: %v", y)
		}
	}
}
