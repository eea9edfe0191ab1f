package clean

import (
	"slices"

	"thatch/api"
	"thatch/geom"
)

// mostChunk is how many sectors are copied at once, at most.
const mostChunk = 4096

// way is how jobs of a geometry go on, by chunks of so many sectors.
type way struct {
	geom    api.Geom
	bands   int
	bandLen int
	chunk   int
}

// wayOf is the way of a geometry, on which a job is.
func wayOf(g api.Geom, chunk int, j api.Job) (way, api.Errno) {
	l, e := geom.Layout(g)
	if e != api.OK {
		return way{}, e
	}
	if !May(g, j) || chunk < 1 || chunk > mostChunk {
		return way{}, api.ErrArg
	}
	return way{geom: g, bands: l.Bands, bandLen: l.BandLen, chunk: chunk}, api.OK
}

// wants is what a job wants next.
func (w way) wants(j api.Job) api.Todo {
	switch j.State {
	case api.JobBand:
		return api.Todo{Kind: api.TodoSpare, Band: j.Bands[0]}
	case api.JobLabel:
		return api.Todo{Kind: api.TodoLabel, Band: j.Bands[0], Zone: j.Spare}
	case api.JobCopy:
		n := min(w.chunk, w.bandLen-j.Next)
		return api.Todo{Kind: api.TodoCopy, Band: j.Bands[0], Zone: j.Spare, At: j.Next, N: n}
	case api.JobCommit:
		return api.Todo{Kind: api.TodoCommit, Band: j.Bands[0], Zone: j.Spare}
	case api.JobFree:
		return api.Todo{Kind: api.TodoFree, Zone: j.Zone}
	}
	return api.Todo{Kind: api.TodoPick}
}

// without is a job of a zone and bands, of which nothing is begun yet.
func without(zone int, bands []int) api.Job {
	j := Idle()
	j.Zone = zone
	switch {
	case len(bands) > 0:
		j.State, j.Bands = api.JobBand, bands
	case zone != api.NoZone:
		j.State = api.JobFree
	}
	return j
}

// turn is what becomes of a job when what it wanted was done.
type turn func(j api.Job, d api.Did) api.Job

// turns are what becomes of a job, by the kinds of what it wanted. The bands of
// what it becomes may be those of the job, or of what was done.
func (w way) turns() []turn {
	return []turn{
		api.TodoPick: func(_ api.Job, d api.Did) api.Job {
			return without(d.Zone, d.Bands)
		},
		api.TodoSpare: func(j api.Job, d api.Did) api.Job {
			j.State, j.Spare = api.JobLabel, d.Zone
			return j
		},
		api.TodoLabel: func(j api.Job, _ api.Did) api.Job {
			j.State = api.JobCopy
			return j
		},
		api.TodoCopy: func(j api.Job, _ api.Did) api.Job {
			j.Next += w.wants(j).N
			if j.Next == w.bandLen {
				j.State = api.JobCommit
			}
			return j
		},
		api.TodoCommit: func(j api.Job, _ api.Did) api.Job {
			return without(j.Zone, j.Bands[1:])
		},
		api.TodoFree: func(api.Job, api.Did) api.Job {
			return Idle()
		},
	}
}

// touched is what becomes of a job when a band was written.
func touched(j api.Job, band int) api.Job {
	switch j.State {
	case api.JobLabel, api.JobCopy, api.JobCommit:
		if band == j.Bands[0] {
			return without(j.Zone, j.Bands)
		}
	}
	return j
}

// becomes is what becomes of a job as something was done.
func (w way) becomes(j api.Job, d api.Did) (api.Job, api.Errno) {
	switch d.Kind {
	case api.DidFail:
		return Idle(), api.OK
	case api.DidTouch:
		if d.Band < 0 || d.Band >= w.bands {
			return api.Job{}, api.ErrArg
		}
		return touched(j, d.Band), api.OK
	case w.wants(j).Kind:
		next := w.turns()[d.Kind](j, d)
		if !May(w.geom, next) {
			return api.Job{}, api.ErrArg
		}
		return next, api.OK
	}
	return api.Job{}, api.ErrState
}

// Wants is what a job wants next.
func Wants(g api.Geom, chunk int, j api.Job) (api.Todo, api.Errno) {
	w, e := wayOf(g, chunk, j)
	if e != api.OK {
		return api.Todo{}, e
	}
	return w.wants(j), api.OK
}

// After is what becomes of a job as something was done.
func After(g api.Geom, chunk int, j api.Job, d api.Did) (api.Job, api.Errno) {
	w, e := wayOf(g, chunk, j)
	if e != api.OK {
		return api.Job{}, e
	}
	next, e := w.becomes(j, d)
	next.Bands = slices.Clone(next.Bands)
	return next, e
}

// Left is how many things are to be done still till a job is idle.
func Left(g api.Geom, chunk int, j api.Job) int {
	w, e := wayOf(g, chunk, j)
	if e != api.OK {
		return 0
	}
	n := 0
	for turns := w.turns(); j.State != api.JobIdle; n++ {
		// Which zone is the spare one does not matter to how much is left.
		kind := w.wants(j).Kind
		j = turns[kind](j, api.Did{Kind: kind})
	}
	return n
}
