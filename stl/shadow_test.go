package stl_test

import (
	"slices"
	"testing"

	"thatch/api"
	"thatch/band"
	"thatch/geom"
	"thatch/handle"
	"thatch/mount"
	"thatch/zdisk"
)

const nowhere = api.NoZone

// where is where a logical sector lies: zone 0, where the map says nothing of it.
type where struct{ zone, off int }

// shadow is a device as the chapter tells of it, sector by sector, on a disk of
// its own.
type shadow struct {
	t        *testing.T
	geom     api.Geom
	opts     api.Options
	disk     *zdisk.Disk
	mounted  *mount.Mounted
	lies     []where
	homes    []int
	bad      []bool
	changes  []api.Delta
	counted  int
	job      api.Job
	spare    *handle.Handle
	content  []byte
	readOnly bool
	exempt   bool // that ErrBusy is told though the power is gone
	open     bool // what was done last may be OK, or ErrIO
}

func newShadow(t *testing.T, x api.Geom, d *zdisk.Disk, o api.Options) (*shadow, api.Errno) {
	m, e := mount.Open(d)
	if e != api.OK {
		return nil, e
	}
	w := &shadow{t: t, geom: x, opts: o, disk: d, mounted: m, homes: m.State.Homes, bad: m.State.Bad}
	w.lies = make([]where, layout(x).Sectors)
	for _, x := range m.State.Extents {
		w.set(x)
	}
	w.counted = len(w.extents())
	w.job = idle()
	w.readOnly = m.Meta.Dead()
	return w, api.OK
}

func idle() api.Job {
	return api.Job{State: api.JobIdle, Zone: nowhere, Spare: nowhere}
}

func (w *shadow) set(x api.Extent) {
	for i := range x.N {
		w.lies[x.At+i] = where{x.Zone, x.Off + i}
		if x.Zone == nowhere {
			w.lies[x.At+i].off = 0
		}
	}
}

// extents are the fewest that say where sectors lie.
func (w *shadow) extents() []api.Extent {
	var all []api.Extent
	ahead := where{}
	for at, x := range w.lies {
		goesOn := at%4096 != 0 && ahead.zone == x.zone && (x.zone == nowhere || ahead.off+1 == x.off)
		if x.zone != 0 && goesOn {
			all[len(all)-1].N++
		} else if x.zone != 0 {
			all = append(all, extent(at, 1, x.zone, x.off))
		}
		ahead = x
	}
	return all
}

func (w *shadow) state() api.State {
	return api.State{Upto: w.mounted.Cache.Last(), Homes: slices.Clone(w.homes), Bad: slices.Clone(w.bad), Extents: w.extents()}
}

func (w *shadow) status() api.Status {
	p := w.mounted.Pool
	return api.Status{
		ReadOnly: w.readOnly, Free: p.Count(api.RoleFree) + p.Count(api.RoleSpare), Cached: p.Cached(),
		Extents: len(w.extents()), Pending: len(w.changes), Last: w.mounted.Cache.Last(),
		Generation: w.mounted.Meta.Super().Generation, Job: w.job.State,
	}
}

// long is how many sectors a band has.
func (w *shadow) long() int { return w.geom.Len - 1 }

// place is where a sector lies, in a band's home, too.
func (w *shadow) place(at int) where {
	if w.lies[at].zone != 0 {
		return w.lies[at]
	}
	if home := w.homes[at/w.long()]; home != nowhere {
		return where{home, at%w.long() + 1}
	}
	return where{nowhere, 0}
}

func (w *shadow) has(s api.Span) bool {
	return s.At >= 0 && s.At < len(w.lies) && s.N >= 1 && s.N <= len(w.lies)-s.At
}

// read is what a fork of the disk tells of sectors, one by one.
func (w *shadow) read(s api.Span) ([]byte, api.Errno) {
	if !w.has(s) {
		return nil, api.ErrRange
	}
	f := w.disk.Fork()
	var all []byte
	for i := range s.N {
		x := w.place(s.At + i)
		b, e := make([]byte, 128), api.OK
		if x.zone != nowhere {
			b, e = f.Read(x.zone*w.geom.Len+x.off, 1)
		}
		if e != api.OK {
			return nil, api.ErrIO
		}
		all = append(all, b...)
	}
	return all, api.OK
}

func (w *shadow) commit() api.Errno {
	if w.readOnly {
		return api.ErrReadOnly
	}
	if _, e := w.mounted.Meta.Commit(w.changes, w.state()); e == api.ErrOff {
		return e
	} else if e != api.OK {
		w.readOnly = true
		return api.ErrReadOnly
	}
	w.changes, w.counted = nil, len(w.extents())
	return api.OK
}

func (w *shadow) goBad(zone int) {
	w.mounted.Pool.Set(zone, api.RoleBad)
	w.bad[zone-w.geom.Conv] = true
	w.changes = append(w.changes, api.Delta{Kind: api.DeltaBad, Zone: zone})
}

func (w *shadow) giveBack(zone int) {
	if handle.Empty(w.disk, zone) == api.OK {
		w.mounted.Pool.Set(zone, api.RoleFree)
	} else {
		w.goBad(zone)
	}
}

// room is ErrBusy, or the map has room for n changes.
func (w *shadow) room(n int) api.Errno {
	most := layout(w.geom).Extents
	if w.counted+3*len(w.changes)+3*n > most {
		if e := w.commit(); e != api.OK {
			return e
		}
	}
	if len(w.extents())+3*n > most {
		w.exempt = true
		return api.ErrBusy
	}
	return api.OK
}

// fits is ErrBusy, or batches of so many sectors have room.
func (w *shadow) fits(l ...int) api.Errno {
	if w.mounted.Cache.Fits(l) {
		return api.OK
	}
	w.mounted.Cache.PutBy()
	return api.ErrBusy
}

// appended is what becomes of a batch of sectors that was appended, or refused.
func (w *shadow) appended(first bool, s api.Span, l []api.Delta, e api.Errno) api.Errno {
	if e == api.ErrBusy && first {
		return e
	}
	if e != api.OK {
		return api.ErrIO
	}
	for _, d := range l {
		w.changes = append(w.changes, d)
		x := extent(d.At, d.N, nowhere, 0)
		if d.Kind == api.DeltaPut {
			x.Zone, x.Off = d.Zone, d.Off
		}
		w.set(x)
	}
	held := w.job.Spare
	if held == nowhere || s.At+s.N <= w.job.Bands[0]*w.long() || s.At >= (w.job.Bands[0]+1)*w.long() {
		return api.OK
	}
	w.job.State, w.job.Spare, w.job.Next = api.JobBand, nowhere, 0
	w.giveBack(held)
	return api.OK
}

func (w *shadow) write(at int, data []byte, fua bool) api.Errno {
	n := len(data) / 128
	switch l := layout(w.geom); {
	case n == 0 || len(data)%128 != 0:
		return api.ErrArg
	case !w.has(s(at, n)):
		return api.ErrRange
	case n > l.Run:
		return api.ErrLong
	case w.readOnly:
		return api.ErrReadOnly
	}
	// No more than one border of bands is within so few sectors.
	runs := []api.Span{s(at, n)}
	if to := (at/w.long() + 1) * w.long(); to < at+n {
		runs = []api.Span{s(at, to-at), s(to, at+n-to)}
	}
	if e := w.room(len(runs)); e != api.OK {
		return e
	}
	var long []int
	for _, run := range runs {
		long = append(long, 1+run.N)
	}
	if e := w.fits(long...); e != api.OK {
		return e
	}
	for i, run := range runs {
		l, e := w.mounted.Cache.Write(run, data[(run.At-at)*128:(run.At-at+run.N)*128])
		if e := w.appended(i == 0, run, l, e); e != api.OK {
			return e
		}
	}
	if fua {
		return w.commit()
	}
	return api.OK
}

func (w *shadow) discard(x api.Span) api.Errno {
	switch {
	case !w.has(x):
		return api.ErrRange
	case x.N > 4096:
		return api.ErrLong
	case w.readOnly:
		return api.ErrReadOnly
	}
	pieces := 1
	if x.At/4096 != (x.At+x.N-1)/4096 {
		pieces = 2
	}
	if e := w.room(pieces); e != api.OK {
		return e
	}
	if e := w.fits(1); e != api.OK {
		return e
	}
	l, e := w.mounted.Cache.Trim([]api.Span{x})
	return w.appended(true, x, l, e)
}

// fail is what a step tells that fails.
func (w *shadow) fail(e api.Errno) (bool, api.Errno) {
	held := w.job.Spare
	w.job = idle()
	if held != nowhere {
		w.giveBack(held)
	}
	return true, e
}

// bandsWhere is the bands of which a sector is so, by the map.
func (w *shadow) bandsWhere(is func(x where) bool) []int {
	var l []int
	for at, x := range w.lies {
		if b := at / w.long(); is(x) && !slices.Contains(l, b) {
			l = append(l, b)
		}
	}
	return l
}

// live is how many sectors lie in a zone.
func (w *shadow) live(zone int) int {
	n := 0
	for _, x := range w.lies {
		if x.zone == zone {
			n++
		}
	}
	return n
}

func (w *shadow) pick() (bool, api.Errno) {
	if len(w.extents())+6 > layout(w.geom).Extents {
		w.job = api.Job{State: api.JobBand, Zone: nowhere, Spare: nowhere, Bands: w.bandsWhere(func(x where) bool { return x.zone != 0 })}
		return true, api.OK
	}
	order := w.mounted.Cache.Order()
	if len(order) == 0 {
		return false, api.OK
	}
	zone := order[0]
	for _, other := range order {
		if w.opts.Policy == greedy && w.live(other) < w.live(zone) {
			zone = other
		}
	}
	w.job = api.Job{State: api.JobBand, Zone: zone, Spare: nowhere, Bands: w.bandsWhere(func(x where) bool { return x.zone == zone })}
	if len(w.job.Bands) == 0 {
		w.job.State = api.JobFree
	}
	return true, api.OK
}

func (w *shadow) takeSpare() (bool, api.Errno) {
	zone, e := w.mounted.Pool.Take(api.RoleSpare)
	if e != api.OK {
		return w.fail(api.ErrBusy)
	}
	w.spare, e = handle.New(w.disk, zone)
	if e != api.OK {
		w.goBad(zone)
		return w.fail(api.ErrIO)
	}
	w.job.Spare, w.job.State = zone, api.JobLabel
	return true, api.OK
}

func (w *shadow) label() (bool, api.Errno) {
	b := w.job.Bands[0]
	content, e := w.read(s(b*w.long(), w.long()))
	if e != api.OK {
		return w.fail(api.ErrIO)
	}
	t, e1 := band.Of(w.geom, b, w.mounted.Cache.Last(), content)
	sector, e2 := band.Encode(w.geom, t)
	must(w.t, e1, e2)
	if _, e := w.spare.Append(sector); e != api.OK {
		return w.fail(api.ErrIO)
	}
	w.content, w.job.State = content, api.JobCopy
	return true, api.OK
}

func (w *shadow) copies() (bool, api.Errno) {
	n := min(w.opts.Chunk, w.long()-w.job.Next)
	if _, e := w.spare.Append(w.content[w.job.Next*128 : (w.job.Next+n)*128]); e != api.OK {
		return w.fail(api.ErrIO)
	}
	w.job.Next += n
	if w.job.Next == w.long() {
		w.job.State = api.JobCommit
	}
	return true, api.OK
}

// offAtEnd is what a step tells that did what it had to, though a zone may not be
// emptied.
func (w *shadow) offAtEnd() (bool, api.Errno) {
	if w.disk.Off() {
		return true, api.ErrOff
	}
	return true, api.OK
}

func (w *shadow) bringHome() (bool, api.Errno) {
	b, zone := w.job.Bands[0], w.job.Spare
	old := w.homes[b]
	w.changes = append(w.changes, api.Delta{Kind: api.DeltaHome, At: b, Zone: zone})
	w.homes[b] = zone
	for i := range w.long() {
		w.lies[b*w.long()+i] = where{}
	}
	if e := w.commit(); e != api.OK {
		return true, e
	}
	if old != nowhere {
		w.giveBack(old)
	}
	w.mounted.Pool.Set(zone, api.RoleHome)
	w.job = api.Job{State: api.JobBand, Zone: w.job.Zone, Spare: nowhere, Bands: w.job.Bands[1:]}
	if len(w.job.Bands) == 0 {
		w.job.State = api.JobFree
		if w.job.Zone == nowhere {
			w.job = idle()
		}
	}
	return w.offAtEnd()
}

func (w *shadow) free() (bool, api.Errno) {
	if len(w.changes) > 0 {
		if e := w.commit(); e != api.OK {
			return true, e
		}
	}
	if w.mounted.Cache.Free(w.job.Zone) != api.OK {
		w.goBad(w.job.Zone)
		// Whether that is a step that fails the words do not say.
		w.open = !w.disk.Off()
	}
	w.job = idle()
	return w.offAtEnd()
}

func (w *shadow) step() (bool, api.Errno) {
	if w.disk.Off() {
		return false, api.ErrOff
	}
	if w.readOnly {
		return false, api.ErrReadOnly
	}
	do := map[int]func() (bool, api.Errno){api.JobIdle: w.pick, api.JobBand: w.takeSpare, api.JobLabel: w.label, api.JobCopy: w.copies, api.JobCommit: w.bringHome, api.JobFree: w.free}
	is, e := do[w.job.State]()
	return is, w.end(e)
}

// end is what is told at a call's end.
func (w *shadow) end(e api.Errno) api.Errno {
	exempt := w.exempt
	w.exempt = false
	if w.disk.Off() && !exempt && (e == api.ErrIO || e == api.ErrReadOnly || e == api.ErrBusy) {
		return api.ErrOff
	}
	return e
}

func (w *shadow) drain() (int, api.Errno) {
	if w.readOnly {
		return 0, api.ErrReadOnly
	}
	w.mounted.Cache.PutBy()
	n := 0
	for {
		is, e := w.step()
		if is {
			n++
		}
		if e != api.OK {
			return n, e
		}
		if !is {
			return n, w.end(w.commit())
		}
		if w.open {
			return n, e
		}
	}
}

func (w *shadow) unmount() api.Errno {
	if e := w.commit(); e != api.OK {
		return e
	}
	if w.mounted.Meta.Checkpoint(w.state(), true) != api.OK {
		return api.ErrReadOnly
	}
	return api.OK
}

func (w *shadow) verify() []int {
	var l []int
	f := w.disk.Fork()
	for b, home := range w.homes {
		if home == nowhere {
			continue
		}
		all, e := f.Read(geom.Zone(w.geom, home).At, w.geom.Len)
		if e != api.OK {
			l = append(l, b)
			continue
		}
		label, e := band.Decode(w.geom, all[:128])
		if e != api.OK || label.Band != b || !band.Right(w.geom, label, all[128:]) {
			l = append(l, b)
		}
	}
	return l
}
