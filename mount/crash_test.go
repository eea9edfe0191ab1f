package mount_test

import (
	"bytes"
	"slices"
	"testing"

	"thatch/api"
	"thatch/handle"
	"thatch/meta"
	"thatch/mount"
	"thatch/zdisk"
)

// device is a small device of the tests' own on what was mounted, which crashes
// now and then.
type device struct {
	t         *testing.T
	geom      api.Geom
	number    func(int) int
	disk      *zdisk.Disk
	mounted   *mount.Mounted
	committed api.State   // the last state that was
	state     api.State   // as it is now
	trying    api.State   // what is being committed
	changes   []api.Delta // that were not committed
	batches   []api.Batch // that were appended behind what was committed
	sure      int         // so many of them are flushed
	placed    map[where][]byte
}

func newDevice(t *testing.T, x api.Geom, seed uint64) *device {
	t.Helper()
	d := formatted(t, x)
	v := &device{t: t, geom: x, number: numbers(seed), disk: d, placed: map[where][]byte{}}
	v.begin(open(t, d))
	return v
}

// begin is the device, as it was mounted.
func (v *device) begin(m *mount.Mounted) {
	v.mounted, v.committed, v.state, v.trying = m, m.State, m.State, m.State
	v.changes, v.batches, v.sure = nil, nil, 0
}

// changed is what becomes of the device's state behind deltas.
func (v *device) changed(l ...api.Delta) {
	v.t.Helper()
	s, e := meta.After(v.geom, v.state, l)
	must(v.t, e)
	s.Upto = v.mounted.Cache.Last()
	v.state = s
	v.changes = append(v.changes, l...)
}

// write appends a batch to the cache, of data or of holes.
func (v *device) write() {
	v.t.Helper()
	b := someBatch(v.geom, v.mounted.Cache.Last()+1, v.number)
	b.Spans = b.Spans[:1]
	var l []api.Delta
	var e api.Errno
	if b.Kind == api.BatchData {
		l, e = v.mounted.Cache.Write(b.Spans[0], some(b.Spans[0].N, b.Seq))
	} else {
		l, e = v.mounted.Cache.Trim(b.Spans)
	}
	if e == api.ErrBusy {
		v.clean()
		return
	}
	if e != api.OK {
		v.wantOff(e)
		return
	}
	if b.Kind == api.BatchData {
		for i := range b.Spans[0].N {
			v.placed[where{l[0].Zone, l[0].Off + i}] = some(b.Spans[0].N, b.Seq)[i*128 : (i+1)*128]
		}
	}
	v.batches = append(v.batches, b)
	v.changed(l...)
}

// wantOff wants that what was refused was refused since the power is gone.
func (v *device) wantOff(e api.Errno) {
	v.t.Helper()
	if !v.disk.Off() {
		v.t.Fatal("refused", e)
	}
}

func (v *device) flush() {
	if v.disk.Flush() == api.OK {
		v.sure = len(v.batches)
	}
}

// commit tells whether the changes are committed.
func (v *device) commit() bool {
	v.t.Helper()
	v.trying = v.state
	if _, e := v.mounted.Meta.Commit(v.changes, v.state); e != api.OK {
		v.wantOff(e)
		return false
	}
	if len(v.changes) > 0 {
		v.committed = v.state
		v.changes, v.batches, v.sure = nil, nil, 0
	}
	return true
}

// clean brings a band home, so that nothing of it lies in the cache any more, and
// frees the zones of the cache in which nothing lies.
func (v *device) clean() {
	v.t.Helper()
	band := v.number(len(v.state.Homes))
	zone, e := v.mounted.Pool.Take(api.RoleSpare)
	must(v.t, e)
	h, e := handle.New(v.disk, zone)
	must(v.t, e)
	for i := range v.geom.Len {
		if _, e := h.Append(some(1, band+i)); e != api.OK {
			v.wantOff(e)
			return
		}
		v.placed[where{zone, i}] = some(1, band+i)
	}
	old := v.state.Homes[band]
	v.changed(api.Delta{Kind: api.DeltaHome, At: band, Zone: zone})
	if !v.commit() {
		return
	}
	if old != api.NoZone {
		if e := handle.Empty(v.disk, old); e != api.OK {
			v.wantOff(e)
			return
		}
		must(v.t, v.mounted.Pool.Set(old, api.RoleFree))
	}
	must(v.t, v.mounted.Pool.Set(zone, api.RoleHome))
	v.mounted.Cache.PutBy()
	for _, zone := range v.mounted.Cache.Order() {
		lies := slices.ContainsFunc(v.state.Extents, func(x api.Extent) bool { return x.Zone == zone })
		if lies {
			continue
		}
		if e := v.mounted.Cache.Free(zone); e != api.OK {
			v.wantOff(e)
			return
		}
	}
}

// keepSome crashes: any of what is unsure is kept.
func (v *device) keepSome() {
	v.t.Helper()
	var keep []api.Keep
	var prefix []int
	share := v.number(4)
	for at := range v.geom.Conv * v.geom.Len {
		if v.number(3) < share {
			keep = append(keep, api.Keep{Sector: at, Back: v.number(2)})
		}
	}
	for range v.geom.Seq {
		prefix = append(prefix, v.number(v.geom.Len+1))
	}
	must(v.t, v.disk.Crash(keep, prefix))
}

// found wants that what lasts is what was committed, that what stands behind it
// was appended, and that it has all that was flushed: what is to be mounted.
func (v *device) found() behind {
	v.t.Helper()
	_, lasts, e := meta.Load(v.disk.Fork())
	must(v.t, e)
	if !sameMap(lasts, v.committed) && !sameMap(lasts, v.trying) {
		v.t.Fatalf("%v lasts, neither %v nor %v", lasts, v.committed, v.trying)
	}
	want := reckoned(v.t, v.disk)
	stands := func(b api.Batch) func(api.Stood) bool {
		return func(x api.Stood) bool { return x.Batch.Seq == b.Seq }
	}
	for i, b := range v.batches {
		if i < v.sure && b.Seq > lasts.Upto && !slices.ContainsFunc(want.stands, stands(b)) {
			v.t.Fatalf("%v was flushed, and is not there", b)
		}
	}
	for _, x := range want.stands {
		is := x.Batch.Seq <= lasts.Upto
		for _, b := range v.batches {
			is = is || sameStood(x, at(x.Zone, x.Off, b))
		}
		if !is {
			v.t.Fatalf("%v stands, and was not appended", x)
		}
	}
	return want
}

// crash crashes, in the course of mounting too, and mounts what is left.
func (v *device) crash() {
	v.t.Helper()
	v.keepSome()
	want := v.found()
	for v.number(3) > 0 {
		must(v.t, v.disk.Stop(v.number(14)))
		m, e := mount.Open(v.disk)
		if e != api.OK && e != api.ErrOff || e == api.OK && !sameMap(m.State, want.state) {
			v.t.Fatal("cut off", e)
		}
		v.keepSome()
	}
	m := open(v.t, v.disk)
	if !sameMap(m.State, want.state) || m.Meta.Dead() {
		v.t.Fatalf("mounted: %v, not %v", m.State, want.state)
	}
	v.begin(m)
	v.reads()
}

// reads wants that where something lies, and at home, it is as it was written.
func (v *device) reads() {
	v.t.Helper()
	d := v.disk.Fork()
	want := func(zone, off, n int) {
		t := v.t
		t.Helper()
		for i := range n {
			b, e := d.Read(zone*v.geom.Len+off+i, 1)
			if e != api.OK || !bytes.Equal(b, v.placed[where{zone, off + i}]) {
				t.Fatalf("zone %d, sector %d: %d", zone, off+i, e)
			}
		}
	}
	for _, x := range v.state.Extents {
		if x.Zone != api.NoZone {
			want(x.Zone, x.Off, x.N)
		}
	}
	for _, zone := range v.state.Homes {
		if zone != api.NoZone {
			want(zone, 0, v.geom.Len)
		}
	}
}

// P22.4: whatever crashes, a disk that is mounted has what was committed, and of
// what was appended behind it each batch whole, or not at all; mounted once more it
// has the same. No command is refused, but for the power's sake.
func TestCrash(t *testing.T) {
	crashes := 0
	for seed := range uint64(120) {
		v := newDevice(t, []api.Geom{small, narrow, wide}[seed%3], seed)
		for range 60 {
			if v.number(12) == 0 {
				must(t, v.disk.Stop(v.number(30)))
			}
			switch v.number(10) {
			case 0:
				v.flush()
			case 1, 2:
				v.commit()
			case 3:
				if v.mounted.Pool.Count(api.RoleFree) > 0 {
					v.clean()
				}
			default:
				v.write()
			}
			if v.disk.Off() || v.number(15) == 0 {
				crashes++
				v.crash()
			}
		}
		for c := range v.disk.Cmds() {
			if c.Code != api.OK {
				t.Fatal(c)
			}
		}
	}
	if crashes < 500 {
		t.Error(crashes)
	}
}
