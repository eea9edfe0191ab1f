package stl_test

import (
	"math"
	"slices"
	"testing"

	"thatch/api"
	"thatch/geom"
	"thatch/meta"
	"thatch/stl"
	"thatch/zdisk"
)

// empty is the empty state of a geometry.
func empty(x api.Geom) api.State {
	s := api.State{Bad: make([]bool, x.Seq)}
	for range x.Seq - x.Cache - 1 {
		s.Homes = append(s.Homes, nowhere)
	}
	return s
}

// P23.1: what is mounted of an empty device.
func TestMount(t *testing.T) {
	for _, x := range []api.Geom{small, narrow, wide, crowded} {
		for _, chunk := range []int{1, 2, 4095, 4096} {
			for _, policy := range []int{fifo, greedy} {
				d := formatted(t, x)
				v, e := stl.Mount(d, options(chunk, policy))
				must(t, e)
				if got, want := v.Status(), (api.Status{Free: x.Seq, Generation: 2}); got != want {
					t.Errorf("status %+v, not %+v", got, want)
				}
				if v.Geom() != x || !same(v.State(), empty(x)) {
					t.Error(v.Geom(), v.State())
				}
				b, e := v.Read(0, layout(x).Sectors)
				if e != api.OK || len(b) != layout(x).Sectors*128 || slices.Max(b) != 0 {
					t.Error("sectors that were never written", e)
				}
				if is, e := v.Step(); is || e != api.OK {
					t.Error("something to do", e)
				}
			}
		}
	}
}

// P23.1: what is refused, and that it changes nothing.
func TestMountRefused(t *testing.T) {
	d := formatted(t, small)
	k := &kit{t: t, geom: small, disk: d}
	try := func(d *zdisk.Disk, o api.Options, want api.Errno) {
		t.Helper()
		if v, e := stl.Mount(d, o); v != nil || e != want {
			t.Errorf("%v: %d, not %d", o, e, want)
		}
	}
	k.nothing(func() {
		for _, chunk := range noChunks() {
			try(d, options(chunk, fifo), api.ErrArg)
			try(d, options(chunk, 0), api.ErrArg)
			try(nil, options(chunk, greedy), api.ErrArg)
		}
		for _, policy := range noPolicies() {
			try(d, options(4, policy), api.ErrArg)
			try(nil, options(1, policy), api.ErrArg)
		}
		try(nil, options(4, fifo), api.ErrGeom)
	})
	blank, e := zdisk.New(geom.Shape(small))
	must(t, e)
	try(blank, options(4, fifo), api.ErrSuper)
	must(t, blank.Spoil(1))
	try(blank, options(4, fifo), api.ErrMedia)
	must(t, d.Stop(0))
	try(d, options(4, greedy), api.ErrOff)
	must(t, d.Crash(nil, nil), d.Stop(3))
	try(d, options(4, greedy), api.ErrOff)
	must(t, d.Crash(nil, nil))
	_, e = stl.Mount(d, options(4, fifo))
	must(t, e)
}

// calls are all calls of a device that may be refused, with arguments that may be;
// each wants that nothing but an error is told.
func calls(t *testing.T, v *stl.Device) map[string]api.Errno {
	t.Helper()
	all := map[string]api.Errno{}
	var b []byte
	var is bool
	var zone, off, n int
	var l []int
	b, all["Read"] = v.Read(0, 1)
	is, all["Step"] = v.Step()
	zone, off, all["Where"] = v.Where(0)
	n, all["Drain"] = v.Drain()
	l, all["Verify"] = v.Verify()
	all["Write"] = v.Write(0, some(1, 9), false)
	all["Force"] = v.Write(0, some(1, 9), true)
	all["Discard"] = v.Discard(s(0, 1))
	all["Flush"] = v.Flush()
	all["SetPolicy"] = v.SetPolicy(greedy)
	for what, e := range all {
		if e == api.OK {
			delete(all, what)
		}
	}
	if len(all) == 10 && (len(b) > 0 || is || zone != 0 || off != 0 || n != 0 || len(l) > 0) {
		t.Error("something beside an error", b, is, zone, off, n, l)
	}
	return all
}

// badCalls are those with arguments that may not be.
func badCalls(v *stl.Device) map[string]api.Errno {
	all := map[string]api.Errno{}
	_, all["Read"] = v.Read(-1, 1)
	_, _, all["Where"] = v.Where(math.MaxInt)
	all["Write"] = v.Write(0, nil, false)
	all["Write, range"] = v.Write(-1, some(1, 1), false)
	all["Write, long"] = v.Write(0, some(9, 1), true)
	all["Discard"] = v.Discard(api.Span{})
	return all
}

// P23.1: a device that is nil, or was unmounted, is ErrClosed; Status, Geom and
// State tell what they told, or nothing.
func TestClosed(t *testing.T) {
	k := newKit(t, small)
	k.write(3, 4, false, api.OK)
	must(t, k.dev.Unmount())
	status, state := k.dev.Status(), k.dev.State()
	for _, v := range []*stl.Device{nil, k.dev} {
		k.nothing(func() {
			got := calls(t, v)
			got["Unmount"] = v.Unmount()
			got["SetPolicy, none"] = v.SetPolicy(7)
			for what, e := range badCalls(v) {
				got[what+" that is refused"] = e
			}
			if len(got) != 18 {
				t.Error("not all are refused:", got)
			}
			for what, e := range got {
				k.want(what, e, api.ErrClosed)
			}
		})
	}
	if k.dev.Status() != status || !same(k.dev.State(), state) || k.dev.Geom() != small {
		t.Error(k.dev.Status(), k.dev.State(), k.dev.Geom())
	}
	var v *stl.Device
	if v.Status() != (api.Status{}) || v.Geom() != (api.Geom{}) || !same(v.State(), api.State{}) {
		t.Error("of nil", v.Status(), v.Geom(), v.State())
	}
	// Also where the power is gone.
	must(t, k.disk.Stop(0))
	for what, e := range calls(t, k.dev) {
		k.want(what, e, api.ErrClosed)
	}
}

// P23.1: where the power is gone, ErrOff goes ahead of all else, but of SetPolicy;
// nothing changes.
func TestOff(t *testing.T) {
	k := newKit(t, small)
	k.write(3, 4, true, api.OK)
	must(t, k.disk.Stop(0))
	status, state := k.dev.Status(), k.dev.State()
	k.nothing(func() {
		got := calls(t, k.dev)
		if _, is := got["SetPolicy"]; is {
			t.Error("SetPolicy is refused")
		}
		got["Unmount"] = k.dev.Unmount()
		for what, e := range badCalls(k.dev) {
			got[what+" that is refused"] = e
		}
		if len(got) != 16 {
			t.Error("not all are refused:", got)
		}
		for what, e := range got {
			k.want(what, e, api.ErrOff)
		}
		k.want("SetPolicy", k.dev.SetPolicy(3), api.ErrArg)
	})
	if k.dev.Status() != status || !same(k.dev.State(), state) || k.dev.Geom() != small {
		t.Error(k.dev.Status(), k.dev.State(), k.dev.Geom())
	}
	k.crash()
	k.reads()
}

// P23.1: a device of which the meta is dead is read-only from the beginning; what
// may not be is refused by its name all the same; reads go on.
func TestReadOnlyFromTheBeginning(t *testing.T) {
	k := newKit(t, small)
	k.write(3, 4, false, api.OK)
	k.write(20, 3, false, api.OK)
	k.drain()
	k.write(5, 1, true, api.OK)
	must(t, k.disk.Fail(1))
	k.mount()
	if !k.dev.Status().ReadOnly {
		t.Error("not read-only")
	}
	k.wantReadOnly()
}

// wantReadOnly wants that nothing is written any more, and all is read; the device
// is unmounted then.
func (k *kit) wantReadOnly() {
	k.t.Helper()
	k.reads()
	k.gives(func() {
		for what, e := range calls(k.t, k.dev) {
			k.want(what, e, api.ErrReadOnly)
		}
		k.want("Write", k.dev.Write(0, some(1, 1), false), api.ErrReadOnly)
		k.want("Write, none", k.dev.Write(0, nil, false), api.ErrArg)
		k.want("Write, a part", k.dev.Write(0, some(1, 1)[:9], true), api.ErrArg)
		k.want("Write, range", k.dev.Write(33, some(1, 1), true), api.ErrRange)
		k.want("Write, long", k.dev.Write(0, some(9, 1), true), api.ErrLong)
		k.want("Discard", k.dev.Discard(s(3, 3)), api.ErrReadOnly)
		k.want("Discard, range", k.dev.Discard(s(33, 1)), api.ErrRange)
		k.want("SetPolicy, none", k.dev.SetPolicy(0), api.ErrArg)
		k.want("SetPolicy", k.dev.SetPolicy(greedy), api.OK)
		k.step(false, api.ErrReadOnly, k.dev.Status().Job)
		if n, e := k.dev.Drain(); n != 0 || e != api.ErrReadOnly {
			k.t.Error("Drain", n, e)
		}
		k.want("Flush", k.dev.Flush(), api.ErrReadOnly)
	})
	if _, _, e := k.dev.Where(0); e != api.OK {
		k.t.Error("Where", e)
	}
	if l, e := k.dev.Verify(); len(l) > 0 || e != api.OK {
		k.t.Error("Verify", l, e)
	}
	k.reads()
	k.nothing(func() {
		k.want("Unmount", k.dev.Unmount(), api.ErrReadOnly)
		k.want("Unmount", k.dev.Unmount(), api.ErrClosed)
		k.want("Flush", k.dev.Flush(), api.ErrClosed)
	})
	if !k.dev.Status().ReadOnly {
		k.t.Error("not read-only")
	}
}

// P23.3: SetPolicy: by which one it is picked, also behind some that are none.
func TestSetPolicy(t *testing.T) {
	k := newKit(t, wide)
	for _, policy := range noPolicies() {
		k.want("none", k.dev.SetPolicy(policy), api.ErrArg)
	}
	// Zone 3 has five sectors that are needed, zone 4 one.
	for _, policy := range []int{fifo, greedy} {
		k := newKit(t, wide)
		k.write(0, 5, false, api.OK)
		k.write(10, 3, false, api.OK)
		k.write(10, 7, false, api.OK)
		k.write(18, 8, false, api.OK)
		k.write(11, 6, false, api.OK)
		k.dev.SetPolicy(3 - policy)
		k.dev.SetPolicy(policy)
		k.dev.SetPolicy(0)
		k.till(api.JobFree)
		zone := 3
		if policy == greedy {
			zone = 4
		}
		k.gives(func() { k.step(true, api.OK, api.JobIdle) }, emptied(zone))
	}
}

// R3: what is handed in is not kept, what is answered is new.
func TestNothingShared(t *testing.T) {
	k := newKit(t, small)
	b := some(4, 3)
	must(t, k.dev.Write(9, b, false))
	copy(k.plain[9*128:], b)
	clear(b)
	k.reads()
	k.drain()
	k.write(3, 2, false, api.OK)
	one, _ := k.dev.Read(0, 33)
	clear(one[:cap(one)])
	state := k.dev.State()
	for i := range state.Homes {
		state.Homes[i] = 3
	}
	for i := range state.Bad {
		state.Bad[i] = true
	}
	for i := range state.Extents {
		state.Extents[i] = extent(0, 1, 4, 4)
	}
	k.reads()
	k.extents(extent(3, 2, 2, 1))
	k.isBad()
	k.discard(0, 1, api.OK)
	k.flush(api.OK)
	k.drain()
	k.reads()
	if _, now, e := meta.Load(k.disk.Fork()); e != api.OK || !same(now, k.dev.State()) {
		t.Error(now, k.dev.State())
	}
}
