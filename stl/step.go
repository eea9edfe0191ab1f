package stl

import (
	"thatch/api"
	"thatch/band"
	"thatch/clean"
	"thatch/geom"
	"thatch/handle"
	"thatch/valid"
	"thatch/victim"
)

// turn is how something that a job wants is done: what became of it (no Did: the
// job stays as it is), and what is told.
type turn struct {
	kind int
	do   func(v *Device, t api.Todo) (api.Did, api.Errno)
}

// turns are all of them.
func turns() []turn {
	return []turn{
		{api.TodoPick, (*Device).pick},
		{api.TodoSpare, (*Device).takeSpare},
		{api.TodoLabel, (*Device).writeLabel},
		{api.TodoCopy, (*Device).writeChunk},
		{api.TodoCommit, (*Device).bringHome},
		{api.TodoFree, (*Device).free},
	}
}

// Step does what the cleaner's job wants; it tells whether there was something
// to do.
func (v *Device) Step() (bool, api.Errno) {
	if e := v.writable(); e != api.OK {
		return false, e
	}
	t, e := clean.Wants(v.geom, v.options.Chunk, v.job.Job)
	if e != api.OK {
		return false, e
	}
	var d api.Did
	for _, way := range turns() {
		if way.kind == t.Kind {
			d, e = way.do(v, t)
		}
	}
	is := e != api.OK || d.Kind != 0
	if d.Kind != 0 {
		v.become(d)
	}
	return is, v.told(e)
}

// failed is what becomes of a job that can not go on.
func failed(e api.Errno) (api.Did, api.Errno) {
	return api.Did{Kind: api.DidFail}, e
}

// pick picks what is cleaned next: all bands, if the map has hardly any room,
// else a zone of the cache.
func (v *Device) pick(api.Todo) (api.Did, api.Errno) {
	d := api.Did{Kind: api.TodoPick, Zone: api.NoZone}
	l := v.lies.Extents()
	if len(l)+api.SlackExtents > v.layout.Extents {
		d.Bands, _ = valid.Touched(v.geom, l)
		return d, api.OK
	}
	choices, e := victim.Choices(v.geom, l, v.cache.Order())
	if e != api.OK {
		return failed(api.ErrIO)
	}
	first, e := victim.Pick(v.options.Policy, choices)
	if e != api.OK {
		return api.Did{}, api.OK
	}
	d.Zone = first.Zone
	d.Bands, _ = valid.Bands(v.geom, l, first.Zone)
	return d, api.OK
}

// takeSpare takes a zone that is to be a band's home.
func (v *Device) takeSpare(api.Todo) (api.Did, api.Errno) {
	zone, e := v.pool.Take(api.RoleSpare)
	if e != api.OK {
		return failed(api.ErrBusy)
	}
	h, e := handle.New(v.disk, zone)
	if e != api.OK {
		v.goBad(zone)
		return failed(api.ErrIO)
	}
	v.job.handle = h
	return api.Did{Kind: api.TodoSpare, Zone: zone}, api.OK
}

// toSpare appends sectors to the spare zone, as a job wants it.
func (v *Device) toSpare(t api.Todo, sectors []byte, e api.Errno) (api.Did, api.Errno) {
	if e != api.OK {
		return failed(api.ErrIO)
	}
	if _, e := v.job.handle.Append(sectors); e != api.OK {
		return failed(api.ErrIO)
	}
	return api.Did{Kind: t.Kind}, api.OK
}

// writeLabel reads the job's band, and writes the label of what is there.
func (v *Device) writeLabel(t api.Todo) (api.Did, api.Errno) {
	content, e := v.sectors(geom.BandSpan(v.geom, t.Band))
	if e != api.OK {
		return failed(e)
	}
	v.job.content = content
	label, e := band.Of(v.geom, t.Band, v.cache.Last(), content)
	if e != api.OK {
		return failed(api.ErrIO)
	}
	sector, e := band.Encode(v.geom, label)
	return v.toSpare(t, sector, e)
}

// writeChunk writes a part of the band, as it was when the label was written.
func (v *Device) writeChunk(t api.Todo) (api.Did, api.Errno) {
	part, e := band.Chunk(v.geom, v.job.content, t.At, t.N)
	return v.toSpare(t, part, e)
}

// bringHome makes the spare zone the band's home.
func (v *Device) bringHome(t api.Todo) (api.Did, api.Errno) {
	old := v.homes[t.Band]
	v.change(api.Delta{Kind: api.DeltaHome, At: t.Band, Zone: t.Zone})
	if e := v.commit(); e != api.OK {
		return api.Did{}, e
	}
	// Not ahead of this: what lasts needed the old home till now.
	if old != api.NoZone {
		v.giveBack(old)
	}
	v.pool.Set(t.Zone, api.RoleHome)
	return api.Did{Kind: t.Kind}, unlessOff
}

// free empties the zone of the cache of which all was brought home.
func (v *Device) free(t api.Todo) (api.Did, api.Errno) {
	if len(v.changes) > 0 {
		if e := v.commit(); e != api.OK {
			return api.Did{}, e
		}
	}
	if v.cache.Free(t.Zone) != api.OK {
		v.goBad(t.Zone)
	}
	return api.Did{Kind: t.Kind}, unlessOff
}

// Drain cleans till there is nothing to do; it tells how many steps had
// something to do.
func (v *Device) Drain() (int, api.Errno) {
	if e := v.writable(); e != api.OK {
		return 0, e
	}
	v.cache.PutBy()
	for n := 0; ; n++ {
		is, e := v.Step()
		switch {
		case e != api.OK && is:
			return n + 1, e
		case e != api.OK:
			return n, e
		case !is:
			return n, v.told(v.commit())
		}
	}
}
