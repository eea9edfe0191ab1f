package clean_test

import (
	"math"
	"slices"
	"testing"

	"thatch/api"
	"thatch/clean"
)

// P20.1: the idle job.
func TestIdle(t *testing.T) {
	wantJob(t, "Idle", clean.Idle(), api.OK, idle)
}

// P20.1: of all jobs that the numbers about the bounds make, those may be that
// the words tell of.
func TestMay(t *testing.T) {
	for _, x := range []api.Geom{tiny, small} {
		may := map[key]int{}
		for _, j := range allJobs(x) {
			may[keyOf(j)] = 1
		}
		found := 0
		lists := append(rising(x), nil, []int{}, []int{-1}, []int{bandsOf(x)}, []int{0, 0}, []int{1, 0}, []int{0, 1, 1}, []int{-1, 0}, []int{0, bandsOf(x)}, []int{1, 0, 2}, []int{0, 2, 1})
		zones := append(zonesOf(x), -1, 0, x.Conv-1, x.Conv+x.Seq, 254, none, 256)
		nexts := []int{-1}
		for n := range x.Len + 1 {
			nexts = append(nexts, n)
		}
		for state := -1; state < 7; state++ {
			for _, zone := range zones {
				for _, bands := range lists {
					for _, spare := range zones {
						for _, next := range nexts {
							j := job(state, zone, bands, spare, next)
							want := may[keyOf(j)] == 1
							if clean.May(x, j) != want {
								t.Fatalf("%v: %v may be: %t", x, j, !want)
							}
							if want {
								found++
							}
						}
					}
				}
			}
		}
		// The idle one, and one for each zone to be emptied, come with either empty list.
		if found != len(allJobs(x))+1+x.Seq {
			t.Errorf("%v: %d of %d jobs found", x, found, len(allJobs(x)))
		}
	}
}

// manyBands are all bands of geometry wide.
func manyBands() []int {
	bands := make([]int, bandsOf(wide))
	for i := range bands {
		bands[i] = i
	}
	return bands
}

// P20.1: numbers far out of bounds, and many bands.
func TestMayFar(t *testing.T) {
	for _, c := range []struct {
		j    api.Job
		want bool
	}{
		{job(api.JobBand, 16, manyBands(), none, 0), true},
		{job(api.JobCopy, none, manyBands(), 143, 1022), true},
		{job(api.JobCopy, 143, manyBands(), 16, 1023), false},
		{job(api.JobCommit, 143, manyBands(), 16, 1023), true},
		{job(api.JobCommit, 143, manyBands(), 16, 1022), false},
		{job(api.JobLabel, 143, []int{125}, 142, 0), true},
		{job(api.JobLabel, 143, []int{126}, 142, 0), false},
		{job(api.JobBand, 16, append(manyBands(), 126), none, 0), false},
		{job(api.JobBand, 16, append(manyBands(), 0), none, 0), false},
		{job(api.JobBand, 16, append(manyBands(), 125), none, 0), false},
		{job(api.JobBand, 16, []int{math.MaxInt}, none, 0), false},
		{job(api.JobBand, 16, []int{math.MaxInt, math.MinInt}, none, 0), false},
		{job(api.JobBand, 16, []int{5, math.MinInt, 6}, none, 0), false},
		{job(api.JobBand, math.MinInt, []int{5}, none, 0), false},
		{job(api.JobBand, math.MaxInt, []int{5}, none, 0), false},
		{job(api.JobLabel, 16, []int{5}, math.MaxInt, 0), false},
		{job(api.JobLabel, none, []int{5}, math.MinInt, 0), false},
		{job(api.JobCopy, 16, []int{5}, 17, math.MaxInt), false},
		{job(api.JobCopy, 16, []int{5}, 17, math.MinInt), false},
		{job(api.JobFree, 15, nil, none, 0), false},
		{job(api.JobFree, 144, nil, none, 0), false},
		{job(api.JobFree, none, nil, none, 0), false},
		{api.Job{}, false},
	} {
		if clean.May(wide, c.j) != c.want {
			t.Errorf("%v may be: %t", c.j, !c.want)
		}
	}
	for _, state := range noStates() {
		for _, j := range allJobs(tiny) {
			j.State = state
			if clean.May(tiny, j) {
				t.Errorf("%v may be", j)
			}
		}
	}
	for _, x := range brokenGeoms() {
		for _, j := range allJobs(tiny) {
			if clean.May(x, j) {
				t.Errorf("%v: %v may be", x, j)
			}
		}
	}
}

// P20.1: which jobs are the same.
func TestSame(t *testing.T) {
	a := job(api.JobCopy, 3, []int{0, 2}, 4, 5)
	for _, c := range []struct {
		a, b api.Job
		want bool
	}{
		{a, job(api.JobCopy, 3, []int{0, 2}, 4, 5), true},
		{a, job(api.JobCommit, 3, []int{0, 2}, 4, 5), false},
		{a, job(api.JobCopy, 2, []int{0, 2}, 4, 5), false},
		{a, job(api.JobCopy, 3, []int{0, 1}, 4, 5), false},
		{a, job(api.JobCopy, 3, []int{1, 2}, 4, 5), false},
		{a, job(api.JobCopy, 3, []int{0}, 4, 5), false},
		{a, job(api.JobCopy, 3, []int{0, 2, 3}, 4, 5), false},
		{a, job(api.JobCopy, 3, nil, 4, 5), false},
		{a, job(api.JobCopy, 3, []int{0, 2}, none, 5), false},
		{a, job(api.JobCopy, 3, []int{0, 2}, 4, 6), false},
		{idle, job(api.JobIdle, none, []int{}, none, 0), true},
		{job(api.JobIdle, none, []int{}, none, 0), idle, true},
		{api.Job{}, api.Job{}, true},
		{api.Job{}, idle, false},
		// They need not be jobs that may be.
		{job(-3, -1, []int{9, -9}, 1000, -7), job(-3, -1, []int{9, -9}, 1000, -7), true},
	} {
		if clean.Same(c.a, c.b) != c.want || clean.Same(c.b, c.a) != c.want {
			t.Errorf("%v, %v the same: %t", c.a, c.b, !c.want)
		}
	}
}

// P20.1: the spare zone that a job has.
func TestHolds(t *testing.T) {
	for _, j := range allJobs(tiny) {
		held := j.State == api.JobLabel || j.State == api.JobCopy || j.State == api.JobCommit
		zone, is := clean.Holds(j)
		if is != held || zone != j.Spare || !is && zone != none {
			t.Errorf("%v: %d %t", j, zone, is)
		}
	}
}

// chunks are all that differ for a band's sectors, and the greatest one.
func chunks(x api.Geom) []int {
	l := []int{4096}
	for chunk := range x.Len + 1 {
		l = append(l, 1+chunk)
	}
	return l
}

// P20.1: what each job wants.
func TestWants(t *testing.T) {
	for _, x := range []api.Geom{tiny, small} {
		for _, chunk := range chunks(x) {
			for _, j := range allJobs(x) {
				want := plainWants(x, chunk, j)
				if got, e := clean.Wants(x, chunk, j); e != api.OK || got != want {
					t.Fatalf("%v by %d: %v: %v %d, not %v", x, chunk, j, got, e, want)
				}
			}
		}
	}
	for _, c := range []struct {
		j     api.Job
		chunk int
		want  api.Todo
	}{
		{idle, 4, api.Todo{Kind: api.TodoPick}},
		{job(api.JobBand, 3, []int{1, 2}, none, 0), 4, api.Todo{Kind: api.TodoSpare, Band: 1}},
		{job(api.JobLabel, 3, []int{1, 2}, 5, 0), 4, api.Todo{Kind: api.TodoLabel, Band: 1, Zone: 5}},
		{job(api.JobCopy, none, []int{2}, 5, 0), 4, api.Todo{Kind: api.TodoCopy, Band: 2, Zone: 5, N: 4}},
		{job(api.JobCopy, none, []int{2}, 5, 7), 4, api.Todo{Kind: api.TodoCopy, Band: 2, Zone: 5, At: 7, N: 4}},
		{job(api.JobCopy, none, []int{2}, 5, 8), 4, api.Todo{Kind: api.TodoCopy, Band: 2, Zone: 5, At: 8, N: 3}},
		{job(api.JobCopy, none, []int{2}, 5, 10), 4096, api.Todo{Kind: api.TodoCopy, Band: 2, Zone: 5, At: 10, N: 1}},
		{job(api.JobCommit, 3, []int{1, 2}, 5, 11), 4, api.Todo{Kind: api.TodoCommit, Band: 1, Zone: 5}},
		{job(api.JobFree, 3, nil, none, 0), 4, api.Todo{Kind: api.TodoFree, Zone: 3}},
	} {
		if got, e := clean.Wants(small, c.chunk, c.j); e != api.OK || got != c.want {
			t.Errorf("%v by %d: %v %d, not %v", c.j, c.chunk, got, e, c.want)
		}
	}
}

// brokenJobs are jobs of geometry small that may not be.
func brokenJobs() []api.Job {
	return []api.Job{
		{}, job(api.JobIdle, 3, nil, none, 0), job(api.JobIdle, none, []int{0}, none, 0), job(api.JobIdle, none, nil, 3, 0), job(api.JobIdle, none, nil, none, 1),
		job(api.JobFree, none, nil, none, 0), job(api.JobFree, 1, nil, none, 0), job(api.JobFree, 3, []int{0}, none, 0), job(api.JobFree, 3, nil, 4, 0), job(api.JobFree, 3, nil, none, 1),
		job(api.JobBand, 3, nil, none, 0), job(api.JobBand, none, nil, none, 0), job(api.JobBand, 8, []int{0}, none, 0), job(api.JobBand, 3, []int{3}, none, 0), job(api.JobBand, 3, []int{1, 1}, none, 0), job(api.JobBand, 3, []int{0}, 4, 0), job(api.JobBand, 3, []int{0}, none, 1),
		job(api.JobLabel, 3, []int{0}, 3, 0), job(api.JobLabel, 3, []int{0}, none, 0), job(api.JobLabel, 3, []int{0}, 1, 0), job(api.JobLabel, 3, []int{0}, 4, 1), job(api.JobLabel, 3, nil, 4, 0),
		job(api.JobCopy, 3, []int{0}, 4, -1), job(api.JobCopy, 3, []int{0}, 4, 11), job(api.JobCopy, 3, []int{0}, none, 4), job(api.JobCopy, 3, nil, 4, 4), job(api.JobCopy, 1, []int{0}, 4, 4), job(api.JobCopy, 3, []int{1, 0}, 4, 4),
		job(api.JobCommit, 3, []int{0}, 4, 10), job(api.JobCommit, 3, []int{0}, 4, 12), job(api.JobCommit, 3, []int{0}, 4, 0), job(api.JobCommit, 3, nil, 4, 11), job(api.JobCommit, 3, []int{0}, 3, 11),
		job(-1, none, nil, none, 0), job(6, none, nil, none, 0), job(6, 3, []int{0}, 4, 0),
	}
}

// wantNothing wants what a job wants, and becomes, to be refused, and nothing to
// be left.
func wantNothing(t *testing.T, x api.Geom, chunk int, j api.Job, want api.Errno) {
	t.Helper()
	if got, e := clean.Wants(x, chunk, j); e != want || got != (api.Todo{}) {
		t.Errorf("%v by %d: %v wants %v %d, not %d", x, chunk, j, got, e, want)
	}
	for kind := -1; kind < 10; kind++ {
		for _, band := range []int{0, -1} {
			d := api.Did{Kind: kind, Zone: 4, Band: band, Bands: []int{0}}
			got, e := clean.After(x, chunk, j, d)
			wantRefused(t, []any{x, chunk, j, d}, got, e, want)
		}
	}
	if n := clean.Left(x, chunk, j); n != 0 {
		t.Errorf("%v by %d: %v has %d left", x, chunk, j, n)
	}
}

// P20.1, P20.2: geometries, jobs and chunks that may not be, the geometry first.
func TestRefused(t *testing.T) {
	for _, x := range brokenGeoms() {
		for _, chunk := range append(noChunks(), 1, 5, 4096) {
			for _, j := range []api.Job{{}, idle, job(api.JobFree, 3, nil, none, 0), job(api.JobCopy, 3, []int{0}, 4, 2)} {
				wantNothing(t, x, chunk, j, api.ErrGeom)
			}
		}
	}
	for _, j := range brokenJobs() {
		for _, chunk := range append(noChunks(), 1, 5, 4096) {
			wantNothing(t, small, chunk, j, api.ErrArg)
		}
	}
	for _, j := range allJobs(tiny) {
		for _, chunk := range noChunks() {
			wantNothing(t, tiny, chunk, j, api.ErrArg)
		}
	}
}

// R3: what is handed in is neither changed nor kept, nor is the room behind it;
// each answer is new, its spare room too.
func TestNothingShared(t *testing.T) {
	room := []int{0, 1, 2, 77}
	for _, c := range []struct {
		j    api.Job
		d    api.Did
		want []int
	}{
		{idle, api.Did{Kind: api.TodoPick, Zone: 3, Bands: room[:3]}, []int{0, 1, 2}},
		{job(api.JobBand, 3, room[:3], none, 0), api.Did{Kind: api.TodoSpare, Zone: 4}, []int{0, 1, 2}},
		{job(api.JobLabel, 3, room[:3], 4, 0), api.Did{Kind: api.TodoLabel}, []int{0, 1, 2}},
		{job(api.JobCopy, 3, room[:3], 4, 0), api.Did{Kind: api.TodoCopy}, []int{0, 1, 2}},
		{job(api.JobCommit, 3, room[:3], 4, 11), api.Did{Kind: api.TodoCommit}, []int{1, 2}},
		{job(api.JobCommit, 3, room[:1], 4, 11), api.Did{Kind: api.TodoCommit}, nil},
		{job(api.JobCopy, 3, room[:2], 4, 5), api.Did{Kind: api.DidTouch, Band: 0}, []int{0, 1}},
		{job(api.JobCopy, 3, room[:2], 4, 5), api.Did{Kind: api.DidTouch, Band: 1}, []int{0, 1}},
		{job(api.JobBand, 3, room[:2], none, 0), api.Did{Kind: api.DidTouch, Band: 0}, []int{0, 1}},
		{job(api.JobBand, 3, room[:2], none, 0), api.Did{Kind: api.DidFail}, nil},
		{job(api.JobFree, 3, room[:0], none, 0), api.Did{Kind: api.DidTouch, Band: 0}, nil},
		{idle, api.Did{Kind: api.TodoPick, Zone: 3, Bands: room[:0]}, nil},
	} {
		got, e := clean.After(small, 5, c.j, c.d)
		if e != api.OK || !slices.Equal(got.Bands, c.want) {
			t.Errorf("%v, %v: %v %d", c.j, c.d, got, e)
		}
		all := got.Bands[:cap(got.Bands)]
		for i := range all {
			all[i] = -5
		}
		if _, e := clean.Wants(small, 5, c.j); e != api.OK || clean.Left(small, 5, c.j) == 0 && c.j.State != api.JobIdle {
			t.Errorf("%v: %d", c.j, e)
		}
		if !slices.Equal(room, []int{0, 1, 2, 77}) {
			t.Fatalf("%v, %v: what was handed in is %v", c.j, c.d, room)
		}
	}
}
