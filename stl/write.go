package stl

import (
	"thatch/api"
	"thatch/clean"
	"thatch/geom"
	"thatch/span"
)

// ready sees to it that there is room for n changes, and for batches of so many
// sectors each.
func (v *Device) ready(n int, batches []int) api.Errno {
	if v.readOnly {
		return api.ErrReadOnly
	}
	if e := v.room(n); e != api.OK {
		return e
	}
	if !v.cache.Fits(batches) {
		// Nothing of the active zone is cleaned, till it is put by.
		v.cache.PutBy()
		return api.ErrBusy
	}
	return api.OK
}

// wrote is what refuses a request of which the i-th batch was appended to the
// cache, or was refused; its sectors are what the deltas say.
func (v *Device) wrote(i int, s api.Span, l []api.Delta, e api.Errno) api.Errno {
	switch {
	case e == api.OK:
		v.change(l...)
		v.touch(s)
		return api.OK
	case e == api.ErrBusy && i == 0:
		return api.ErrBusy
	}
	// It was begun, or the medium failed.
	return api.ErrIO
}

// touch lets the cleaner begin anew with its band, if that is one of those that
// have sectors of s.
func (v *Device) touch(s api.Span) {
	for _, part := range span.Split(s, v.layout.BandLen) {
		b, _ := geom.Band(v.geom, part.At)
		v.become(api.Did{Kind: api.DidTouch, Band: b})
	}
}

// Write writes logical sectors, from one on; fua: they last when it answers.
func (v *Device) Write(at int, data []byte, fua bool) api.Errno {
	if e := v.open(); e != api.OK {
		return e
	}
	n := len(data) / api.SectorBytes
	if n == 0 || n*api.SectorBytes != len(data) {
		return api.ErrArg
	}
	s := api.Span{At: at, N: n}
	if e := geom.Check(v.geom, s); e != api.OK {
		return e
	}
	if n > v.layout.Run {
		return api.ErrLong
	}
	e := v.write(s, data)
	if e == api.OK && fua {
		e = v.commit()
	}
	return v.told(e)
}

// write appends a batch for each run of s.
func (v *Device) write(s api.Span, data []byte) api.Errno {
	runs := geom.Runs(v.geom, s)
	var batches []int
	for _, run := range runs {
		batches = append(batches, run.N+1)
	}
	if e := v.ready(len(runs), batches); e != api.OK {
		return e
	}
	for i, run := range runs {
		from := (run.At - s.At) * api.SectorBytes
		l, e := v.cache.Write(run, data[from:from+run.N*api.SectorBytes])
		if e := v.wrote(i, run, l, e); e != api.OK {
			return e
		}
	}
	return api.OK
}

// Discard lets logical sectors be bytes 0.
func (v *Device) Discard(s api.Span) api.Errno {
	if e := v.open(); e != api.OK {
		return e
	}
	if e := geom.Check(v.geom, s); e != api.OK {
		return e
	}
	if s.N > api.MaxExtent {
		return api.ErrLong
	}
	pieces := span.Split(s, api.MaxExtent)
	if e := v.ready(len(pieces), []int{1}); e != api.OK {
		return v.told(e)
	}
	l, e := v.cache.Trim([]api.Span{s})
	return v.told(v.wrote(0, s, l, e))
}

// Flush lets all that was written last.
func (v *Device) Flush() api.Errno {
	if e := v.open(); e != api.OK {
		return e
	}
	return v.told(v.commit())
}

// Unmount puts the device away.
func (v *Device) Unmount() api.Errno {
	if e := v.open(); e != api.OK {
		return e
	}
	e := v.putAway()
	v.unmounted = true
	return v.told(e)
}

// putAway lets all last, so that nothing stands in the journal.
func (v *Device) putAway() api.Errno {
	if e := v.commit(); e != api.OK {
		return e
	}
	if v.meta.Checkpoint(v.State(), true) != api.OK {
		return api.ErrReadOnly
	}
	return api.OK
}

// become lets the job be what it is behind something that was done. A spare zone
// that it held, and that did not become a home, is given back.
func (v *Device) become(d api.Did) {
	spare, held := clean.Holds(v.job.Job)
	next, e := clean.After(v.geom, v.options.Chunk, v.job.Job, d)
	if e != api.OK {
		return
	}
	v.job.Job = next
	if _, holds := clean.Holds(next); holds {
		return
	}
	v.job.handle, v.job.content = nil, nil
	if held && v.pool.Role(spare) == api.RoleSpare {
		v.giveBack(spare)
	}
}
