package valid_test

import (
	"math"
	"slices"
	"testing"

	"thatch/api"
)

func g(conv, seq, length, limit, cache int) api.Geom {
	return api.Geom{Conv: conv, Seq: seq, Len: length, Limit: limit, Cache: cache}
}

func s(at, n int) api.Span { return api.Span{At: at, N: n} }

func put(at, n, zone, off int) api.Extent {
	return api.Extent{At: at, N: n, Zone: zone, Off: off}
}

func nothing(at, n int) api.Extent { return put(at, n, api.NoZone, 0) }

// small has 45 sectors in 3 bands, zones 2 to 7 are sequential, of 16 sectors;
// wide has 14322 in 14 bands, some of them behind multiples of 4096, zones 2 to
// 17, of 1024.
var (
	small = g(2, 6, 16, 3, 2)
	wide  = g(2, 16, 1024, 3, 1)
)

// wholeGeoms are geometries that may be, at the edges too.
func wholeGeoms() []api.Geom {
	return []api.Geom{small, wide, g(2, 4, 8, 2, 1), g(2, 4, 8, 4, 2), g(16, 128, 1024, 128, 126), g(3, 6, 12, 3, 2), g(2, 128, 8, 2, 126), g(5, 9, 17, 3, 4)}
}

// brokenGeoms are geometries that may not be.
func brokenGeoms() []api.Geom {
	l := []api.Geom{{}, g(1, 8, 16, 3, 2), g(17, 8, 16, 3, 2), g(2, 3, 16, 2, 1), g(2, 8, 7, 3, 2), g(2, 8, 16, 1, 2), g(2, 8, 16, 3, 0), g(2, 8, 16, 3, 7), g(2, 59, 8, 2, 1)}
	for _, x := range []int{math.MinInt, -1, 0, 1 << 20, math.MaxInt} {
		l = append(l, g(x, 8, 16, 3, 2), g(2, x, 16, 3, 2), g(2, 8, x, 3, 2), g(2, 8, 16, x, 2), g(2, 8, 16, 3, x), g(x, x, x, x, x))
	}
	return l
}

// noZones are numbers that no sequential zone of a geometry has.
func noZones(x api.Geom) []int {
	return []int{math.MinInt, -1, 0, x.Conv - 1, x.Conv + x.Seq, api.NoZone, math.MaxInt}
}

// sectorsOf is how many sectors a geometry's device has.
func sectorsOf(x api.Geom) int { return (x.Seq - x.Cache - 1) * (x.Len - 1) }

// brokenLists are lists of extents that may not be, of geometry small.
func brokenLists() [][]api.Extent {
	return [][]api.Extent{
		{{}}, {put(0, 0, 3, 0)}, {put(0, -1, 3, 0)}, {put(-1, 1, 3, 0)}, {put(45, 1, 3, 0)}, {put(44, 2, 3, 0)}, {put(0, 1, 3, 16)}, {put(0, 2, 3, 15)}, {put(0, 17, 3, 0)}, {put(0, 1, 3, -1)},
		{put(0, 1, 1, 0)}, {put(0, 1, 8, 0)}, {put(0, 1, -1, 0)}, {put(0, 1, 256, 0)}, {put(0, 1, api.NoZone, 1)}, {nothing(0, 46)}, {nothing(0, 0)},
		{put(math.MaxInt, 1, 3, 0)}, {put(0, math.MaxInt, 3, 0)}, {put(math.MinInt, 1, 3, 0)}, {put(0, 1, 3, math.MaxInt)}, {put(0, 1, math.MinInt, math.MinInt)},
		// They do not rise, or have a sector in common.
		{put(5, 1, 3, 0), put(4, 1, 3, 1)}, {put(5, 1, 3, 0), put(5, 1, 4, 0)}, {put(0, 5, 3, 0), put(4, 1, 4, 0)}, {put(0, 5, 3, 0), nothing(0, 45)}, {nothing(0, 45), put(0, 5, 3, 0)},
		{nothing(0, 2), nothing(1, 2)}, {put(0, 5, 3, 0), put(1, 1, 4, 0), put(5, 1, 4, 1)}, {put(0, 1, 3, 0), put(2, 1, 3, 1), put(1, 1, 3, 2)}, {put(40, 5, 3, 0), put(0, 1, 3, 5)},
		// The one that may not be is the first, the last, or between others.
		{put(0, 0, 3, 0), put(1, 1, 3, 0)}, {put(0, 1, 3, 0), put(1, 0, 3, 0)}, {put(0, 1, 3, 0), put(1, 1, 3, 16), put(2, 1, 3, 1)},
	}
}

// where is where a logical sector lies: no zone where no extent has it.
type where struct{ zone, off int }

// none is the zone of a sector that no extent has.
const none = -1

// places is where each logical sector lies, of extents that may be.
func places(x api.Geom, l []api.Extent) []where {
	all := slices.Repeat([]where{{none, 0}}, sectorsOf(x))
	for _, e := range l {
		for i := range e.N {
			all[e.At+i] = where{e.Zone, e.Off + i}
		}
	}
	return all
}

// plainCounts is how many logical sectors lie in each zone.
func plainCounts(x api.Geom, all []where) []int {
	counts := make([]int, x.Seq)
	for _, w := range all {
		if w.zone != none && w.zone != api.NoZone {
			counts[w.zone-x.Conv]++
		}
	}
	return counts
}

// plainLive is the set of a zone's sectors at which some logical sector lies.
func plainLive(x api.Geom, all []where, zone int) []api.Span {
	var set []api.Span
	for off := range x.Len {
		if !slices.Contains(all, where{zone, off}) {
			continue
		}
		if last := len(set) - 1; last >= 0 && set[last].At+set[last].N == off {
			set[last].N++
		} else {
			set = append(set, s(off, 1))
		}
	}
	return set
}

// plainBands is the bands that have a sector that is so.
func plainBands(x api.Geom, all []where, is func(where) bool) []int {
	var bands []int
	for band := range x.Seq - x.Cache - 1 {
		if slices.ContainsFunc(all[band*(x.Len-1):(band+1)*(x.Len-1)], is) {
			bands = append(bands, band)
		}
	}
	return bands
}

// plainApart tells whether no two logical sectors lie at the same place.
func plainApart(all []where) bool {
	for i, w := range all {
		if w.zone != none && w.zone != api.NoZone && slices.Contains(all[:i], w) {
			return false
		}
	}
	return true
}

// numbers are numbers that look like chance, the same ones each time.
func numbers(seed uint64) func(below int) int {
	x := seed*0x9E3779B97F4A7C15 + 1
	return func(below int) int {
		x ^= x << 13
		x ^= x >> 7
		x ^= x << 17
		return int(x>>11) % below
	}
}

// someList is extents of a geometry of less than 4096 sectors, that may be. Where
// they are to be apart each lies where the one ahead of it in its zone ends.
func someList(x api.Geom, number func(int) int, apart bool) []api.Extent {
	var l []api.Extent
	next := make([]int, x.Seq)
	at := number(4)
	for {
		e := put(at, 1+number(min(12, x.Len)), x.Conv+number(x.Seq), 0)
		if at+e.N > sectorsOf(x) {
			return l
		}
		i := e.Zone - x.Conv
		switch {
		case number(4) == 0:
			e.Zone = api.NoZone
		case !apart:
			e.Off = number(x.Len - e.N + 1)
		case next[i]+e.N <= x.Len:
			e.Off = next[i]
			next[i] += e.N + number(3)
		default:
			e.Zone = api.NoZone
		}
		l = append(l, e)
		at += e.N + number(3)*number(3)
	}
}

// comb is n extents of a sector each, every second one, that lie in one zone at
// every second sector, and again at the same ones behind its end.
func comb(x api.Geom, n, zone int) []api.Extent {
	l := make([]api.Extent, n)
	for i := range l {
		l[i] = put(2*i, 1, zone, 2*i%x.Len)
	}
	return l
}

// The plain answers are what the chapter's example says.
func TestPlain(t *testing.T) {
	all := places(small, []api.Extent{put(0, 5, 3, 2), nothing(20, 2)})
	if c := plainCounts(small, all); !slices.Equal(c, []int{0, 5, 0, 0, 0, 0}) {
		t.Error("counts", c)
	}
	if l := plainLive(small, all, 3); !slices.Equal(l, []api.Span{s(2, 5)}) {
		t.Error("live", l)
	}
	if b := plainBands(small, all, func(w where) bool { return w.zone != none }); !slices.Equal(b, []int{0, 1}) {
		t.Error("bands", b)
	}
	if !plainApart(all) || plainApart(places(small, []api.Extent{put(0, 5, 3, 2), put(9, 1, 3, 6)})) {
		t.Error("apart")
	}
}
