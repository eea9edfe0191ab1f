package clean_test

import (
	"math"
	"testing"

	"thatch/api"
	"thatch/clean"
	"thatch/victim"
)

// kinds are those of what a job wants, and numbers that are none.
func kinds() []int {
	return []int{math.MinInt, -1, 0, api.TodoPick, api.TodoSpare, api.TodoCopy, api.TodoLabel, api.TodoCommit, api.TodoFree, 9, 10, 255, math.MaxInt}
}

// P20.2: what is done, and was not wanted, whatever else is told of it.
func TestNotWanted(t *testing.T) {
	for _, x := range []api.Geom{tiny, small} {
		for _, j := range allJobs(x) {
			for _, kind := range kinds() {
				if kind == plainWants(x, 5, j).Kind {
					continue
				}
				for _, d := range []api.Did{{Kind: kind}, {Kind: kind, Zone: none}, {Kind: kind, Zone: x.Conv, Bands: []int{0}}, {Kind: kind, Zone: -1, Band: -1, Bands: []int{-1}}} {
					got, e := clean.After(x, 5, j, d)
					wantRefused(t, []any{j, d}, got, e, api.ErrState)
				}
			}
		}
	}
}

// P20.2: each thing that fails leaves the idle job, whatever else is told of it.
func TestFail(t *testing.T) {
	for _, x := range []api.Geom{tiny, small} {
		for _, j := range allJobs(x) {
			for _, d := range []api.Did{{Kind: api.DidFail}, {Kind: api.DidFail, Zone: -1, Band: -1, Bands: []int{-1}}, {Kind: api.DidFail, Zone: x.Conv, Band: 1, Bands: []int{1}}} {
				got, e := clean.After(x, 5, j, d)
				wantJob(t, []any{j, d}, got, e, idle)
			}
		}
	}
}

// P20.2: a band is written: the job begins it anew, if it has begun it, and stays
// as it is else.
func TestTouch(t *testing.T) {
	for _, x := range []api.Geom{tiny, small} {
		for _, j := range allJobs(x) {
			for band := range bandsOf(x) {
				want := j
				if j.Spare != none && j.Bands[0] == band {
					want = job(api.JobBand, j.Zone, j.Bands, none, 0)
				}
				d := api.Did{Kind: api.DidTouch, Band: band}
				got, e := clean.After(x, 5, j, d)
				wantJob(t, []any{j, d}, got, e, want)
				// What else is told of it does not matter.
				d.Zone, d.Bands = -1, []int{-1}
				got, e = clean.After(x, 5, j, d)
				wantJob(t, []any{j, d}, got, e, want)
			}
			for _, band := range noBands(x) {
				d := api.Did{Kind: api.DidTouch, Band: band}
				got, e := clean.After(x, 5, j, d)
				wantRefused(t, []any{j, d}, got, e, api.ErrArg)
			}
		}
	}
}

// P20.2: what is picked.
func TestPick(t *testing.T) {
	for _, x := range []api.Geom{tiny, small} {
		try := func(zone int, bands []int) (api.Job, api.Errno) {
			return clean.After(x, 5, idle, api.Did{Kind: api.TodoPick, Zone: zone, Band: -1, Bands: bands})
		}
		for _, empty := range [][]int{nil, {}} {
			got, e := try(none, empty)
			wantJob(t, "nothing", got, e, idle)
			for _, zone := range zonesOf(x) {
				got, e := try(zone, empty)
				wantJob(t, zone, got, e, job(api.JobFree, zone, nil, none, 0))
			}
			for _, zone := range noZones(x) {
				got, e := try(zone, empty)
				wantRefused(t, zone, got, e, api.ErrArg)
			}
		}
		for _, bands := range rising(x) {
			for _, zone := range append(zonesOf(x), none) {
				got, e := try(zone, bands)
				wantJob(t, bands, got, e, job(api.JobBand, zone, bands, none, 0))
			}
			for _, zone := range noZones(x) {
				got, e := try(zone, bands)
				wantRefused(t, bands, got, e, api.ErrArg)
			}
		}
		for _, zone := range []int{none, x.Conv} {
			for _, bands := range [][]int{{-1}, {bandsOf(x)}, {0, 0}, {1, 0}, {0, 1, 0}, {math.MaxInt}, {math.MinInt, 0}} {
				got, e := try(zone, bands)
				wantRefused(t, bands, got, e, api.ErrArg)
			}
		}
	}
}

// P20.2: which spare zone there is; its own zone is none.
func TestSpare(t *testing.T) {
	for _, x := range []api.Geom{tiny, small} {
		for _, j := range allJobs(x) {
			if j.State != api.JobBand {
				continue
			}
			for _, zone := range zonesOf(x) {
				got, e := clean.After(x, 5, j, api.Did{Kind: api.TodoSpare, Zone: zone, Band: -1, Bands: []int{-1}})
				if zone == j.Zone {
					wantRefused(t, j, got, e, api.ErrArg)
				} else {
					wantJob(t, j, got, e, job(api.JobLabel, j.Zone, j.Bands, zone, 0))
				}
			}
			for _, zone := range append(noZones(x), none) {
				got, e := clean.After(x, 5, j, api.Did{Kind: api.TodoSpare, Zone: zone})
				wantRefused(t, j, got, e, api.ErrArg)
			}
		}
	}
}

// plainBehind is what becomes of a job that wants neither a pick nor a spare zone.
func plainBehind(x api.Geom, chunk int, j api.Job) api.Job {
	switch {
	case j.State == api.JobLabel:
		return job(api.JobCopy, j.Zone, j.Bands, j.Spare, 0)
	case j.State == api.JobCopy && j.Next+chunk < lenOf(x):
		return job(api.JobCopy, j.Zone, j.Bands, j.Spare, j.Next+chunk)
	case j.State == api.JobCopy:
		return job(api.JobCommit, j.Zone, j.Bands, j.Spare, lenOf(x))
	case j.State == api.JobCommit && len(j.Bands) > 1:
		return job(api.JobBand, j.Zone, j.Bands[1:], none, 0)
	case j.State == api.JobCommit && j.Zone != none:
		return job(api.JobFree, j.Zone, nil, none, 0)
	}
	return idle
}

// P20.2: what becomes of a job when its label, a chunk, or its home is written,
// or its zone is free.
func TestAfter(t *testing.T) {
	for _, x := range []api.Geom{tiny, small} {
		for _, chunk := range chunks(x) {
			for _, j := range allJobs(x) {
				if j.State == api.JobIdle || j.State == api.JobBand {
					continue
				}
				want := plainBehind(x, chunk, j)
				for _, d := range []api.Did{{}, {Zone: -1, Band: -1, Bands: []int{-1}}, {Zone: x.Conv + 1, Band: 1, Bands: []int{1}}} {
					d.Kind = plainWants(x, chunk, j).Kind
					got, e := clean.After(x, chunk, j, d)
					wantJob(t, []any{chunk, j, d}, got, e, want)
				}
			}
		}
	}
}

// P20.2: how much is left of each job.
func TestLeft(t *testing.T) {
	for _, x := range []api.Geom{tiny, small} {
		for _, chunk := range chunks(x) {
			for _, j := range allJobs(x) {
				if n, want := clean.Left(x, chunk, j), plainLeft(x, chunk, j); n != want {
					t.Fatalf("%v by %d: %v: %d, not %d", x, chunk, j, n, want)
				}
			}
		}
	}
	for _, c := range []struct {
		j           api.Job
		chunk, want int
	}{
		{job(api.JobBand, 143, manyBands(), none, 0), 1, 126*1026 + 1},
		{job(api.JobBand, none, manyBands(), none, 0), 4096, 126 * 4},
		{job(api.JobBand, 16, manyBands(), none, 0), 1022, 126*5 + 1},
		{job(api.JobCommit, none, []int{125}, 143, 1023), 1, 1},
		{job(api.JobCopy, 17, []int{125}, 16, 1000), 5, 7},
	} {
		if n := clean.Left(wide, c.chunk, c.j); n != c.want {
			t.Errorf("%v by %d: %d, not %d", c.j, c.chunk, n, c.want)
		}
	}
}

// P20.2, the chapter's example: what is left, and in which order it is done.
func TestExample(t *testing.T) {
	x := g(2, 6, 16, 3, 2)
	j, e := clean.After(x, 4, clean.Idle(), api.Did{Kind: api.TodoPick, Zone: 3, Bands: []int{1}})
	wantJob(t, "picked", j, e, job(api.JobBand, 3, []int{1}, none, 0))
	if n := clean.Left(x, 4, j); n != 8 {
		t.Error("left", n)
	}
	for i, want := range []api.Todo{
		{Kind: api.TodoSpare, Band: 1},
		{Kind: api.TodoLabel, Band: 1, Zone: 5},
		{Kind: api.TodoCopy, Band: 1, Zone: 5, At: 0, N: 4},
		{Kind: api.TodoCopy, Band: 1, Zone: 5, At: 4, N: 4},
		{Kind: api.TodoCopy, Band: 1, Zone: 5, At: 8, N: 4},
		{Kind: api.TodoCopy, Band: 1, Zone: 5, At: 12, N: 3},
		{Kind: api.TodoCommit, Band: 1, Zone: 5},
		{Kind: api.TodoFree, Zone: 3},
	} {
		todo, e := clean.Wants(x, 4, j)
		if e != api.OK || todo != want {
			t.Errorf("%d: %v %d, not %v", i, todo, e, want)
		}
		if j, e = clean.After(x, 4, j, api.Did{Kind: todo.Kind, Zone: 5}); e != api.OK {
			t.Fatal(i, e)
		}
	}
	wantJob(t, "done", j, e, idle)
}

// wantWalk wants each thing that is done to let one less be left, of a job that
// is idle behind as many, and what is wanted to be the bands' sectors, each once.
func wantWalk(t *testing.T, x api.Geom, chunk int, j api.Job, spare int) {
	t.Helper()
	from, copied := j.Next, 0
	bands, left := len(j.Bands), clean.Left(x, chunk, j)
	if j.State == api.JobIdle {
		t.Fatal("idle")
	}
	for n := left; n > 0; n-- {
		if got := clean.Left(x, chunk, j); got != n || j.State == api.JobIdle || !clean.May(x, j) {
			t.Fatalf("%v by %d: %d left, not %d", j, chunk, got, n)
		}
		todo, e := clean.Wants(x, chunk, j)
		if e != api.OK {
			t.Fatal(j, e)
		}
		copied += todo.N
		if j, e = clean.After(x, chunk, j, api.Did{Kind: todo.Kind, Zone: spare}); e != api.OK {
			t.Fatal(todo, e)
		}
	}
	wantJob(t, "behind all", j, api.OK, idle)
	if want := bands*lenOf(x) - from; copied != want {
		t.Errorf("by %d: %d sectors are copied, not %d", chunk, copied, want)
	}
}

// P20.3: each job comes to an end behind as many things as are left.
func TestWalk(t *testing.T) {
	for _, j := range allJobs(tiny)[1:] {
		for _, chunk := range chunks(tiny) {
			for _, spare := range []int{2, 5} {
				if spare != j.Zone {
					wantWalk(t, tiny, chunk, j, spare)
				}
			}
		}
	}
	for _, chunk := range []int{1, 3, 7, 4096} {
		for _, bands := range rising(many) {
			wantWalk(t, many, chunk, job(api.JobBand, 11, bands, none, 0), 3)
			wantWalk(t, many, chunk, job(api.JobCopy, none, bands, 4, 2), 3)
		}
	}
}

// P20.3: a job of a zone has at first one less than victim's steps of its bands;
// one of no zone has none to free it.
func TestSteps(t *testing.T) {
	for _, x := range []api.Geom{tiny, small, many, wide} {
		for _, chunk := range []int{1, 2, 3, 7, 8, 100, 1023, 4096} {
			for n := 0; n <= bandsOf(x); n += 1 + n/3 {
				bands := manyBands()[:n]
				steps := victim.Steps(x, n, chunk)
				j, e := clean.After(x, chunk, idle, api.Did{Kind: api.TodoPick, Zone: x.Conv, Bands: bands})
				if left := clean.Left(x, chunk, j); e != api.OK || left != steps-1 {
					t.Errorf("%v by %d: %d bands: %d left, not one less than %d, %d", x, chunk, n, left, steps, e)
				}
				j, e = clean.After(x, chunk, idle, api.Did{Kind: api.TodoPick, Zone: none, Bands: bands})
				if left := clean.Left(x, chunk, j); e != api.OK || left != max(steps-2, 0) {
					t.Errorf("%v by %d: %d bands of no zone: %d left, not two less than %d, %d", x, chunk, n, left, steps, e)
				}
			}
		}
	}
}
