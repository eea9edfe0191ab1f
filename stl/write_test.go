package stl_test

import (
	"math"
	"testing"

	"thatch/api"
	"thatch/meta"
)

// lasts wants that the device's state is what lasts of it on the disk, or, if it
// is not to, that it is another one.
func (k *kit) lasts(is bool) {
	k.t.Helper()
	_, state, e := meta.Load(k.disk.Fork())
	if e != api.OK || same(state, k.dev.State()) != is {
		k.t.Errorf("%v lasts, %d; the device has %v", state, e, k.dev.State())
	}
}

// P23.2: a batch for each run; its deltas are changes, and the map's.
func TestWrite(t *testing.T) {
	k := newKit(t, small)
	k.gives(func() { k.write(3, 4, false, api.OK) }, written(2, 0, 5))
	k.status(api.Status{Free: 5, Cached: 1, Extents: 1, Pending: 1, Last: 1, Generation: 2})
	k.extents(extent(3, 4, 2, 1))
	// Two runs: sector 11 is the first one of band 1.
	k.gives(func() { k.write(9, 5, false, api.OK) }, written(2, 5, 3), written(2, 8, 4))
	k.status(api.Status{Free: 5, Cached: 1, Extents: 3, Pending: 3, Last: 3, Generation: 2})
	k.extents(extent(3, 4, 2, 1), extent(9, 2, 2, 6), extent(11, 3, 2, 9))
	k.lasts(false)
	k.gives(func() { k.write(4, 8, false, api.OK) }, finished(2), written(3, 0, 8), written(3, 8, 2))
	k.status(api.Status{Free: 4, Cached: 2, Extents: 4, Pending: 5, Last: 5, Generation: 2})
	k.extents(extent(3, 1, 2, 1), extent(4, 7, 3, 1), extent(11, 1, 3, 9), extent(12, 2, 2, 10))
	k.gives(func() { k.write(30, 1, false, api.OK) }, written(3, 10, 2))
	k.lasts(false)
	k.reads()
	k.homes(nowhere, nowhere, nowhere)
	k.isBad()
}

// P23.2: by fua it is committed, all that was changed till then.
func TestForce(t *testing.T) {
	k := newKit(t, small)
	k.gives(func() { k.write(3, 4, true, api.OK) }, written(2, 0, 5), flushed, k.conv(12), flushed)
	k.status(api.Status{Free: 5, Cached: 1, Extents: 1, Last: 1, Generation: 2})
	k.lasts(true)
	for i := range 5 {
		k.discard(20+2*i, 1, api.OK)
	}
	k.write(10, 1, false, api.OK)
	k.lasts(false)
	// Seven changes are two records.
	k.gives(func() { k.discard(0, 1, api.OK); k.flush(api.OK) }, finished(2), written(3, 0, 1), flushed, k.conv(13), k.conv(14), flushed)
	k.status(api.Status{Free: 4, Cached: 2, Extents: 8, Last: 8, Generation: 2})
	k.lasts(true)
	// Without changes a flush is but that.
	k.gives(func() { k.flush(api.OK) }, flushed)
	k.crash()
	k.reads()
}

// P23.2: what may not be is refused by its name, in this order, and changes nothing.
func TestWriteRefused(t *testing.T) {
	k := newKit(t, small)
	k.write(3, 4, false, api.OK)
	was, state := k.dev.Status(), k.dev.State()
	k.nothing(func() {
		for _, fua := range []bool{false, true} {
			for _, at := range []int{0, 5, 32, 33, -1, math.MinInt, math.MaxInt} {
				for _, n := range []int{0, 1, 127, 129, 255, 8*128 + 1, 33*128 - 1} {
					k.want("no whole number", k.dev.Write(at, some(33, 1)[:n], fua), api.ErrArg)
				}
			}
			k.want("nil", k.dev.Write(3, nil, fua), api.ErrArg)
			for _, x := range []api.Span{s(33, 1), s(32, 2), s(-1, 1), s(-1, 2), s(0, 34), s(30, 9), s(26, 8), s(math.MinInt, 1), s(math.MaxInt, 1), s(math.MaxInt, 9), s(1<<40, 1)} {
				k.want("not the device's", k.dev.Write(x.At, some(x.N, 1), fua), api.ErrRange)
			}
			for _, n := range []int{9, 10, 11, 22, 33} {
				k.want("too long", k.dev.Write(0, some(n, 1), fua), api.ErrLong)
			}
			k.want("too long", k.dev.Write(24, some(9, 1), fua), api.ErrLong)
		}
	})
	if k.dev.Status() != was || !same(k.dev.State(), state) {
		t.Error(k.dev.Status(), k.dev.State())
	}
	k.reads()
	// As long as may be, up to the last sector.
	k.write(25, 8, false, api.OK)
	k.reads()
	k = newKit(t, narrow)
	k.want("too long", k.dev.Write(0, some(7, 1), false), api.ErrLong)
	k.write(8, 6, false, api.OK)
}

// P23.3: holes: one batch, of which bytes 0 are read.
func TestDiscard(t *testing.T) {
	k := newKit(t, small)
	k.write(3, 8, false, api.OK)
	k.gives(func() { k.discard(5, 17, api.OK) }, written(2, 9, 1))
	k.status(api.Status{Free: 5, Cached: 1, Extents: 2, Pending: 2, Last: 2, Generation: 2})
	k.extents(extent(3, 2, 2, 1), extent(5, 17, nowhere, 0))
	k.reads()
	k.lasts(false)
	k.discard(0, 33, api.OK)
	k.extents(extent(0, 33, nowhere, 0))
	k.reads()
	k.write(1, 1, false, api.OK)
	k.crash()
	k.plain = make([]byte, len(k.plain))
	k.reads()
	// What lies in homes is gone, too.
	k = homely(t)
	k.discard(7, 20, api.OK)
	k.reads()
	k.flush(api.OK)
	k.lasts(true)
	k.crash()
	k.reads()
	k.drain()
	k.reads()
}

// P23.3: what may not be is refused by its name, and changes nothing.
func TestDiscardRefused(t *testing.T) {
	k := newKit(t, big)
	k.write(3, 4, false, api.OK)
	was := k.dev.Status()
	k.nothing(func() {
		for _, x := range []api.Span{{}, s(5, 0), s(5, -1), s(-1, 1), s(-1, 4097), s(5110, 1), s(5109, 2), s(0, 5111), s(4000, 1111), s(math.MaxInt, 1), s(1, math.MaxInt), s(math.MinInt, math.MinInt), s(math.MinInt, math.MaxInt)} {
			k.want("not the device's", k.dev.Discard(x), api.ErrRange)
		}
		for _, x := range []api.Span{s(0, 4097), s(1, 4097), s(0, 5110), s(1013, 4097)} {
			k.want("too long", k.dev.Discard(x), api.ErrLong)
		}
	})
	if k.dev.Status() != was {
		t.Error(k.dev.Status())
	}
	k.gives(func() { k.discard(0, 4096, api.OK) }, written(2, 5, 1))
	k.gives(func() { k.discard(1014, 4096, api.OK) }, written(2, 6, 1))
	// Extents do not go over a multiple of 4096: two changes.
	if z := k.dev.Status(); z.Pending != 4 || z.Last != 3 || z.Extents != 2 {
		t.Error(z)
	}
	if b, e := k.dev.Read(0, 5110); e != api.OK || len(b) != 5110*128 {
		t.Error(e)
	}
}

// P23.3: room for as many changes as there are pieces.
func TestDiscardRoom(t *testing.T) {
	for _, x := range []struct {
		s       api.Span
		commits bool
	}{{s(4095, 1), false}, {s(4096, 1), false}, {s(4090, 6), false}, {s(4095, 2), true}, {s(4000, 1000), true}} {
		k := newKit(t, big)
		for i := range 507 {
			k.discard(2*i, 1, api.OK)
		}
		if z := k.dev.Status(); z.Pending != 507 {
			t.Fatal(z)
		}
		k.discard(x.s.At, x.s.N, api.OK)
		if z := k.dev.Status(); (z.Pending < 507) != x.commits {
			t.Error(x, z)
		}
	}
}

// P23.2: where the extents counted at the last commit, and three for each change
// and each of the new ones, are more than 13, it is committed first; where the
// map's, and three for each of these, are more still, it is ErrBusy.
func TestRoom(t *testing.T) {
	k := newKit(t, crowded)
	at := 0
	// try writes one more extent, and wants how many changes there are behind it.
	try := func(pending int) {
		t.Helper()
		k.write(at, 1, false, api.OK)
		at += 2
		if z := k.dev.Status(); z.Pending != pending || z.Extents != at/2 {
			t.Errorf("%d extents: %+v, not %d pending", at/2, z, pending)
		}
	}
	for _, pending := range []int{1, 2, 3, 4, 1, 2, 3, 1, 2} {
		try(pending)
	}
	// Nine are in the map: two runs have no room, whether they are new or not.
	for _, from := range []int{6, 90} {
		k.want("two runs", k.dev.Write(from, some(2, 1), false), api.ErrBusy)
		if z := k.dev.Status(); z.Pending != 0 || z.Extents != 9 || z.Last != 9 {
			t.Error(z)
		}
	}
	k.lasts(true)
	for _, pending := range []int{1, 1} {
		try(pending)
	}
	k.lasts(false)
	// Eleven: one has no room, either; nothing is written, but it is committed.
	k.gives(func() { k.write(50, 1, false, api.ErrBusy) }, flushed, k.conv(12), flushed)
	k.lasts(true)
	k.gives(func() {
		k.write(0, 1, true, api.ErrBusy)
		k.discard(0, 98, api.ErrBusy)
	}, flushed, flushed)
	k.status(api.Status{Free: 17, Cached: 3, Extents: 11, Last: 11, Generation: 2})
	k.reads()
}

// P23.2: what would not fit the cache is ErrBusy: the active zone is put by, and
// nothing of it is written.
func TestBusy(t *testing.T) {
	k := newKit(t, narrow)
	k.write(0, 4, false, api.OK)
	// Three are left: a run of three and its head need four.
	k.gives(func() { k.write(4, 3, true, api.ErrBusy) }, finished(2))
	k.status(api.Status{Free: 3, Cached: 1, Extents: 1, Pending: 1, Last: 1, Generation: 2})
	k.nothing(func() {
		k.write(4, 3, false, api.ErrBusy)
		k.write(0, 1, false, api.ErrBusy)
		k.discard(0, 14, api.ErrBusy)
	})
	k.status(api.Status{Free: 3, Cached: 1, Extents: 1, Pending: 1, Last: 1, Generation: 2})
	k.reads()
	// Just as many as are left.
	k = newKit(t, narrow)
	k.write(0, 4, false, api.OK)
	k.write(4, 2, false, api.OK)
	k.gives(func() { k.discard(0, 1, api.ErrBusy) }, finished(2))
	// Both runs have to fit, or none is written.
	k = newKit(t, narrow)
	k.discard(0, 1, api.OK)
	k.gives(func() { k.write(4, 6, false, api.ErrBusy) }, finished(2))
	k.status(api.Status{Free: 3, Cached: 1, Extents: 1, Pending: 1, Last: 1, Generation: 2})
	k = newKit(t, narrow)
	k.write(4, 6, false, api.OK)
	k.reads()
	// The last sector of the cache may be a hole's.
	k = newKit(t, narrow)
	k.write(0, 6, false, api.OK)
	k.discard(0, 14, api.OK)
	k.discard(0, 14, api.ErrBusy)
	k.reads()
}

// P23.2: a write that no zone takes is ErrIO, one for which no zone is left
// ErrBusy; the sectors are as they were.
func TestWriteFails(t *testing.T) {
	k := newKit(t, small)
	k.write(3, 4, false, api.OK)
	must(t, k.disk.Fail(1))
	k.write(4, 4, false, api.OK) // in another zone
	k.extents(extent(3, 1, 2, 1), extent(4, 4, 3, 1))
	k.reads()
	k.drain()
	must(t, k.disk.Fail(2))
	k.write(4, 4, true, api.ErrIO)
	k.discard(0, 1, api.ErrBusy)
	if z := k.dev.Status(); z.Last != 3 || z.Pending != 0 || z.Extents != 0 || z.Cached != 2 {
		t.Error(z)
	}
	k.reads()
	k.drain()
	must(t, k.disk.Fail(2))
	k.discard(0, 30, api.ErrIO)
	k.reads()
	k.drain()
	// All free zones are bad but one.
	k = newKit(t, small)
	for zone := 2; zone < 8; zone++ {
		must(t, k.disk.Hurt(zone, api.ZoneReadOnly))
	}
	k.write(3, 4, false, api.ErrBusy)
	k.discard(3, 4, api.ErrBusy)
	k.reads()
}

// P23.2: of two runs the second one alone fails, as no zone is left for it: that is
// ErrIO; the first one is as it was to be.
func TestSecondRunFails(t *testing.T) {
	k := newKit(t, small)
	k.write(0, 7, false, api.OK)
	for zone := 3; zone < 8; zone++ {
		must(t, k.disk.Hurt(zone, api.ZoneReadOnly))
	}
	// Four sectors are left: the first run and its head just fit.
	b := some(5, 77)
	k.want("two runs", k.dev.Write(8, b, true), api.ErrIO)
	copy(k.plain[8*128:11*128], b)
	k.reads()
	k.extents(extent(0, 7, 2, 1), extent(8, 3, 2, 9))
	if z := k.dev.Status(); z.Pending != 2 || z.Last != 2 {
		t.Error(z)
	}
	k.flush(api.OK)
	k.crash()
	k.reads()
}

// The chapter's example: also where all that is unsure is lost.
func TestExample(t *testing.T) {
	k := newKit(t, small)
	k.write(3, 1, true, api.OK)
	k.crash()
	k.readsOne(3)
	k.reads()
}
