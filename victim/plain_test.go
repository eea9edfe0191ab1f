package victim_test

import (
	"math"
	"slices"
	"testing"

	"thatch/api"
)

func g(conv, seq, length, limit, cache int) api.Geom {
	return api.Geom{Conv: conv, Seq: seq, Len: length, Limit: limit, Cache: cache}
}

func put(at, n, zone, off int) api.Extent {
	return api.Extent{At: at, N: n, Zone: zone, Off: off}
}

func nothing(at, n int) api.Extent { return put(at, n, api.NoZone, 0) }

// small has 45 sectors in 3 bands of 15, zones 2 to 7 are sequential, of 16
// sectors; narrow has 35 in 5 bands of 7, zones 3 to 11, of 8; wide has 14322 in
// 14 bands of 1023, zones 2 to 17, of 1024.
var (
	small  = g(2, 6, 16, 3, 2)
	narrow = g(3, 9, 8, 2, 3)
	wide   = g(2, 16, 1024, 3, 1)
)

// wholeGeoms are geometries that may be, at the edges too.
func wholeGeoms() []api.Geom {
	return []api.Geom{small, narrow, wide, g(2, 4, 8, 2, 1), g(2, 4, 8, 4, 2), g(16, 128, 1024, 128, 126), g(16, 128, 1024, 2, 1), g(2, 128, 8, 2, 126), g(5, 9, 17, 3, 4)}
}

// brokenGeoms are geometries that may not be.
func brokenGeoms() []api.Geom {
	l := []api.Geom{{}, g(1, 8, 16, 3, 2), g(17, 8, 16, 3, 2), g(2, 3, 16, 2, 1), g(2, 8, 7, 3, 2), g(2, 8, 16, 1, 2), g(2, 8, 16, 3, 0), g(2, 8, 16, 3, 7), g(2, 59, 8, 2, 1)}
	for _, x := range []int{math.MinInt, -1, 0, 1 << 20, math.MaxInt} {
		l = append(l, g(x, 8, 16, 3, 2), g(2, x, 16, 3, 2), g(2, 8, x, 3, 2), g(2, 8, 16, x, 2), g(2, 8, 16, 3, x), g(x, x, x, x, x))
	}
	return l
}

// noPolicies are numbers of no policy; noChunks are no chunks.
func noPolicies() []int { return []int{math.MinInt, -2, -1, 0, 3, 4, 257, 1<<32 + 1, math.MaxInt} }
func noChunks() []int   { return []int{math.MinInt, -15, -1, 0} }

// noZones are numbers that no sequential zone of a geometry has.
func noZones(x api.Geom) []int {
	return []int{math.MinInt, -1, 0, x.Conv - 1, x.Conv + x.Seq, api.NoZone, 256, math.MaxInt}
}

// bandsOf is how many bands a geometry has, lenOf how many sectors each of them.
func bandsOf(x api.Geom) int { return x.Seq - x.Cache - 1 }
func lenOf(x api.Geom) int   { return x.Len - 1 }

// brokenLists are lists of extents that may not be, of geometry small.
func brokenLists() [][]api.Extent {
	return [][]api.Extent{
		{{}}, {put(0, 0, 3, 0)}, {put(0, -1, 3, 0)}, {put(-1, 1, 3, 0)}, {put(45, 1, 3, 0)}, {put(44, 2, 3, 0)}, {put(0, 1, 3, 16)}, {put(0, 2, 3, 15)}, {put(0, 1, 3, -1)},
		{put(0, 1, 1, 0)}, {put(0, 1, 8, 0)}, {put(0, 1, -1, 0)}, {put(0, 1, api.NoZone, 1)}, {nothing(0, 46)}, {nothing(0, 0)},
		{put(math.MaxInt, 1, 3, 0)}, {put(0, math.MaxInt, 3, 0)}, {put(math.MinInt, 1, 3, 0)}, {put(0, 1, 3, math.MaxInt)},
		{put(5, 1, 3, 0), put(4, 1, 3, 1)}, {put(5, 1, 3, 0), put(5, 1, 4, 0)}, {put(0, 5, 3, 0), put(4, 1, 4, 0)}, {nothing(0, 2), nothing(1, 2)},
		{put(0, 1, 3, 0), put(1, 0, 3, 0)}, {put(0, 0, 3, 0), put(1, 1, 3, 0)}, {put(0, 1, 3, 0), put(1, 1, 3, 16), put(2, 1, 3, 1)},
	}
}

// plainAhead tells whether a comes ahead of b, as the chapter's words say.
func plainAhead(policy int, a, b api.Choice) bool {
	if policy == api.PolicyGreedy && a.Live != b.Live {
		return a.Live < b.Live
	}
	if a.Age != b.Age {
		return a.Age < b.Age
	}
	return a.Zone < b.Zone
}

// plainOrder is choices in their order: ever again the first one of those that
// are left ahead of which none of them comes.
func plainOrder(policy int, l []api.Choice) []api.Choice {
	left, ordered := slices.Clone(l), []api.Choice{}
	for len(left) > 0 {
		i := slices.IndexFunc(left, func(c api.Choice) bool {
			return !slices.ContainsFunc(left, func(other api.Choice) bool { return plainAhead(policy, other, c) })
		})
		ordered = append(ordered, left[i])
		left = slices.Delete(left, i, i+1)
	}
	return ordered
}

// plainChoice is the choice of a zone, reckoned sector by sector.
func plainChoice(x api.Geom, l []api.Extent, zone, age int) api.Choice {
	c := api.Choice{Zone: zone, Age: age}
	var bands []int
	for _, e := range l {
		for i := range e.N {
			if e.Zone != zone {
				continue
			}
			c.Live++
			if band := (e.At + i) / lenOf(x); !slices.Contains(bands, band) {
				bands = append(bands, band)
			}
		}
	}
	c.Bands = len(bands)
	return c
}

// plainCrowd is the bands that are touched, those with the most extents first.
func plainCrowd(x api.Geom, l []api.Extent, most int) []int {
	counts := make([]int, bandsOf(x))
	for _, e := range l {
		for band := range counts {
			if e.At < (band+1)*lenOf(x) && e.At+e.N > band*lenOf(x) {
				counts[band]++
			}
		}
	}
	var crowd []int
	for n := len(l); n > 0; n-- {
		for band, count := range counts {
			if count == n && len(crowd) < most {
				crowd = append(crowd, band)
			}
		}
	}
	return crowd
}

// plainSteps counts the steps of a zone, one by one.
func plainSteps(x api.Geom, bands, chunk int) int {
	steps := 1 // It is chosen.
	for range bands {
		steps++ // A spare zone is taken.
		for left := lenOf(x); left > 0; left -= min(chunk, left) {
			steps++
		}
		steps++ // The label is written.
		steps++ // It is committed.
	}
	return steps + 1 // The zone is free.
}

// numbers are numbers that look like chance, the same ones each time.
func numbers(seed uint64) func(below int) int {
	x := seed*0x9E3779B97F4A7C15 + 1
	return func(below int) int {
		x ^= x << 13
		x ^= x >> 7
		x ^= x << 17
		return int(x>>11) % below
	}
}

// someList is extents of a geometry that may be, each within a multiple of 4096.
func someList(x api.Geom, number func(int) int) []api.Extent {
	var l []api.Extent
	all, longest := bandsOf(x)*lenOf(x), min(x.Len, 1+number(2*x.Len))
	for at := number(4); ; {
		e := nothing(at, 1+number(longest))
		e.N = min(e.N, 4096-at%4096)
		if at+e.N > all {
			return l
		}
		if number(4) > 0 {
			e.Zone, e.Off = x.Conv+number(x.Seq), number(x.Len-e.N+1)
		}
		l = append(l, e)
		at += e.N + number(3)*number(longest+1)
	}
}

// The plain answers are what the chapter says by hand.
func TestPlain(t *testing.T) {
	if n := plainSteps(small, 1, 4); n != 9 {
		t.Error("steps", n)
	}
	l := []api.Extent{put(0, 4, 5, 1), put(10, 8, 3, 0), nothing(20, 2), put(31, 3, 5, 5)}
	if c := plainChoice(small, l, 5, 4); c != (api.Choice{Zone: 5, Live: 7, Bands: 2, Age: 4}) {
		t.Error("choice", c)
	}
	if b := plainCrowd(small, append(l, nothing(40, 1), nothing(42, 1)), 9); !slices.Equal(b, []int{2, 0, 1}) {
		t.Error("crowd", b)
	}
}
