package clean_test

import (
	"math"
	"slices"
	"testing"

	"thatch/api"
)

func g(conv, seq, length, limit, cache int) api.Geom {
	return api.Geom{Conv: conv, Seq: seq, Len: length, Limit: limit, Cache: cache}
}

func job(state, zone int, bands []int, spare, next int) api.Job {
	return api.Job{State: state, Zone: zone, Bands: bands, Spare: spare, Next: next}
}

// none is no zone; idle is the idle job.
const none = api.NoZone

var idle = api.Job{State: api.JobIdle, Zone: none, Spare: none}

// small has 3 bands of 11 sectors, zones 2 to 7 are sequential; tiny has 2 of 7,
// zones 2 to 5; many has 5 of 7, zones 3 to 11; wide has 126 of 1023, zones 16 to
// 143.
var (
	small = g(2, 6, 12, 3, 2)
	tiny  = g(2, 4, 8, 2, 1)
	many  = g(3, 9, 8, 2, 3)
	wide  = g(16, 128, 1024, 2, 1)
)

// brokenGeoms are geometries that may not be.
func brokenGeoms() []api.Geom {
	l := []api.Geom{{}, g(1, 8, 16, 3, 2), g(17, 8, 16, 3, 2), g(2, 3, 16, 2, 1), g(2, 8, 7, 3, 2), g(2, 8, 16, 1, 2), g(2, 8, 16, 3, 0), g(2, 8, 16, 3, 7), g(2, 59, 8, 2, 1)}
	for _, x := range []int{math.MinInt, -1, 0, 1 << 20, math.MaxInt} {
		l = append(l, g(x, 8, 16, 3, 2), g(2, x, 16, 3, 2), g(2, 8, x, 3, 2), g(2, 8, 16, x, 2), g(2, 8, 16, 3, x), g(x, x, x, x, x))
	}
	return l
}

// noChunks are none; noStates are no states of a job.
func noChunks() []int { return []int{math.MinInt, -1, 0, 4097, 1<<32 + 1, math.MaxInt} }
func noStates() []int { return []int{math.MinInt, -1, 6, 7, 256, math.MaxInt} }

// bandsOf is how many bands a geometry has, lenOf how many sectors each of them.
func bandsOf(x api.Geom) int { return x.Seq - x.Cache - 1 }
func lenOf(x api.Geom) int   { return x.Len - 1 }

// zonesOf are the sequential zones of a geometry.
func zonesOf(x api.Geom) []int {
	var l []int
	for i := range x.Seq {
		l = append(l, x.Conv+i)
	}
	return l
}

// noBands are numbers of no band.
func noBands(x api.Geom) []int { return []int{math.MinInt, -1, bandsOf(x), 255, math.MaxInt} }

// noZones are numbers of no sequential zone.
func noZones(x api.Geom) []int {
	return []int{math.MinInt, -1, 0, x.Conv - 1, x.Conv + x.Seq, 256, math.MaxInt}
}

// rising are all lists of bands that rise, but the empty one.
func rising(x api.Geom) [][]int {
	var l [][]int
	for row := 1; row < 1<<bandsOf(x); row++ {
		var bands []int
		for band := range bandsOf(x) {
			if row>>band&1 == 1 {
				bands = append(bands, band)
			}
		}
		l = append(l, bands)
	}
	return l
}

// allJobs are all jobs of a small geometry that may be, put down by the words.
func allJobs(x api.Geom) []api.Job {
	l := []api.Job{idle}
	for _, zone := range zonesOf(x) {
		l = append(l, job(api.JobFree, zone, nil, none, 0))
	}
	for _, zone := range append(zonesOf(x), none) {
		for _, bands := range rising(x) {
			l = append(l, job(api.JobBand, zone, bands, none, 0))
			for _, spare := range zonesOf(x) {
				if spare == zone {
					continue
				}
				l = append(l, job(api.JobLabel, zone, bands, spare, 0))
				for next := range lenOf(x) {
					l = append(l, job(api.JobCopy, zone, bands, spare, next))
				}
				l = append(l, job(api.JobCommit, zone, bands, spare, lenOf(x)))
			}
		}
	}
	return l
}

// plainSame tells whether jobs are the same, field by field.
func plainSame(a, b api.Job) bool {
	if len(a.Bands) != len(b.Bands) {
		return false
	}
	for i := range a.Bands {
		if a.Bands[i] != b.Bands[i] {
			return false
		}
	}
	return a.State == b.State && a.Zone == b.Zone && a.Spare == b.Spare && a.Next == b.Next
}

// key is what tells one job from others.
type key struct {
	state, zone, spare, next int
	bands                    string
}

func keyOf(j api.Job) key {
	bands := ""
	for _, band := range j.Bands {
		bands += string(rune(1000+band)) + " "
	}
	return key{j.State, j.Zone, j.Spare, j.Next, bands}
}

// plainWants is what a job that may be wants.
func plainWants(x api.Geom, chunk int, j api.Job) api.Todo {
	kinds := map[int]int{api.JobIdle: api.TodoPick, api.JobBand: api.TodoSpare, api.JobLabel: api.TodoLabel, api.JobCopy: api.TodoCopy, api.JobCommit: api.TodoCommit, api.JobFree: api.TodoFree}
	t := api.Todo{Kind: kinds[j.State]}
	if len(j.Bands) > 0 {
		t.Band = j.Bands[0]
	}
	if j.Spare != none {
		t.Zone = j.Spare
	}
	if j.State == api.JobFree {
		t.Zone = j.Zone
	}
	if j.State == api.JobCopy {
		t.At = j.Next
		for t.N < chunk && t.At+t.N < lenOf(x) {
			t.N++
		}
	}
	return t
}

// plainLeft is how many things are left of a job that may be.
func plainLeft(x api.Geom, chunk int, j api.Job) int {
	copies := func(sectors int) int { return (sectors + chunk - 1) / chunk }
	band := 3 + copies(lenOf(x))
	left := len(j.Bands) * band
	switch j.State {
	case api.JobLabel:
		left -= 1
	case api.JobCopy:
		left += copies(lenOf(x)-j.Next) + 1 - band
	case api.JobCommit:
		left += 1 - band
	}
	if j.Zone != none {
		left++
	}
	return left
}

// wantJob wants a job that is answered, and may be.
func wantJob(t *testing.T, what any, got api.Job, e api.Errno, want api.Job) {
	t.Helper()
	if e != api.OK || !plainSame(got, want) {
		t.Errorf("%v: %v %d, not %v", what, got, e, want)
	}
}

// wantRefused wants an error, and the job of which each field is its zero value.
func wantRefused(t *testing.T, what any, got api.Job, e, want api.Errno) {
	t.Helper()
	if e != want || !plainSame(got, api.Job{}) {
		t.Errorf("%v: %v %d, not %d", what, got, e, want)
	}
}

// The jobs of a small geometry are as many as can be reckoned, no two the same.
func TestPlain(t *testing.T) {
	for _, x := range []api.Geom{small, tiny} {
		zones, lists := x.Seq, 1<<bandsOf(x)-1
		spares := zones*(zones-1) + zones // beside a zone, and beside none
		want := 1 + zones + lists*(zones+1) + lists*spares*(2+lenOf(x))
		seen := map[key]int{}
		for _, j := range allJobs(x) {
			seen[keyOf(j)]++
		}
		if len(seen) != want || len(allJobs(x)) != want {
			t.Errorf("%v: %d jobs, %d of them unlike, not %d", x, len(allJobs(x)), len(seen), want)
		}
	}
	if n := plainLeft(g(2, 6, 16, 3, 2), 4, job(api.JobBand, 3, []int{1}, none, 0)); n != 8 {
		t.Error("left", n)
	}
	if !slices.EqualFunc(rising(small), [][]int{{0}, {1}, {0, 1}, {2}, {0, 2}, {1, 2}, {0, 1, 2}}, slices.Equal[[]int]) {
		t.Error(rising(small))
	}
}
