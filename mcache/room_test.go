package mcache_test

import (
	"slices"
	"testing"

	"thatch/api"
)

func wrote(zone, at, n int, code api.Errno) cmd {
	return cmd{kind: api.CmdWrite, zone: zone, at: at, n: n, code: code}
}

func finished(zone int) cmd { return cmd{kind: api.CmdFinish, zone: zone} }

// P17.1: where a write is refused the zone is put by, and the next one takes it.
func TestRefusedOnce(t *testing.T) {
	k := newKit(t, wide, 0)
	k.write(1, 2, api.OK, put(1, 2, 3, 1))
	must(t, k.disk.Fail(1))
	// The handle is dead: its zone is not finished.
	k.gives(func() { k.write(9, 4, api.OK, put(9, 4, 4, 1)) }, wrote(3, 3, 5, api.ErrMedia), wrote(4, 0, 5, api.OK))
	k.is(2, 4, 3)
	k.roles(sealed, active, free, free, free, free, free, free, free)
	k.standsJust(3, sectors(t, wide, dataBatch(1, s(1, 2)), some(2, 1)))
	k.standsJust(4, sectors(t, wide, dataBatch(2, s(9, 4)), some(4, 9)))
	// A zone that others made read-only, and one that they wrote to.
	must(t, k.disk.Hurt(4, api.ZoneReadOnly))
	k.gives(func() { k.write(0, 1, api.OK, put(0, 1, 5, 1)) }, wrote(4, 5, 2, api.ErrState), wrote(5, 0, 2, api.OK))
	must(t, k.disk.Write(5*10+2, some(1, 0)))
	k.gives(func() { k.write(0, 1, api.OK, put(0, 1, 6, 1)) }, wrote(5, 2, 2, api.ErrOrder), wrote(6, 0, 2, api.OK))
	k.is(4, 6, 3, 4, 5)
}

// P17.1: where it is refused twice that is ErrIO; both zones are put by, and the
// number is the last one.
func TestRefusedTwice(t *testing.T) {
	k := newKit(t, wide, 40)
	k.write(1, 2, api.OK, put(1, 2, 3, 1))
	must(t, k.disk.Fail(2))
	k.gives(func() { k.write(9, 4, api.ErrIO) }, wrote(3, 3, 5, api.ErrMedia), wrote(4, 0, 5, api.ErrMedia))
	k.is(42, -1, 3, 4)
	k.roles(sealed, sealed, free, free, free, free, free, free, free)
	k.gives(func() { k.write(9, 4, api.OK, put(9, 4, 5, 1)) }, wrote(5, 0, 5, api.OK))
	k.is(43, 5, 3, 4)
	if l := k.batches(); len(l) != 2 || l[0].Seq != 41 || l[1].Seq != 43 {
		t.Error(l)
	}
	// A zone is put by for want of room ahead of two that refuse it.
	k.write(0, 3, api.OK, put(0, 3, 5, 6))
	must(t, k.disk.Fail(2))
	k.gives(func() { k.write(0, 8, api.ErrIO) }, finished(5), wrote(6, 0, 9, api.ErrMedia), wrote(7, 0, 9, api.ErrMedia))
	k.is(45, -1, 3, 4, 5, 6, 7)
	// The greatest number is used up so, too.
	k = newKit(t, wide, top-1)
	must(t, k.disk.Fail(2))
	k.write(9, 4, api.ErrIO)
	k.is(top, -1, 3, 4)
	k.write(9, 4, api.ErrArg)
}

// P17.1: where it is refused, and no other zone can be had, it is ErrBusy, and
// the number is not used.
func TestRefusedBusy(t *testing.T) {
	k := newKit(t, narrow, 40)
	must(t, k.disk.Fail(1))
	k.gives(func() { k.write(9, 4, api.ErrBusy) }, wrote(2, 0, 5, api.ErrMedia))
	k.is(40, -1, 2)
	k.roles(sealed, free, free, free)
	k.gives(func() { k.write(9, 4, api.ErrBusy) })
	must(t, k.cache.Free(2))
	k.write(9, 4, api.OK, put(9, 4, 2, 1))
	k.is(41, 2)
	// The one free zone is left to the cleaner.
	k = newKit(t, small, 40)
	if _, e := k.pool.Take(spare); e != api.OK {
		t.Fatal(e)
	}
	must(t, k.pool.Set(5, bad), k.pool.Set(6, bad), k.disk.Fail(1))
	k.gives(func() { k.write(9, 4, api.ErrBusy) }, wrote(3, 0, 5, api.ErrMedia))
	k.is(40, -1, 3)
	k.roles(spare, sealed, free, bad, bad)
}

// P17.1: without the power nothing is written, and two zones are put by.
func TestPowerGone(t *testing.T) {
	for _, before := range []int{0, 1, 2} {
		k := newKit(t, wide, 0)
		must(t, k.disk.Stop(before))
		for i := range before {
			k.write(0, 1, api.OK, put(0, 1, 3, 1+2*i))
		}
		k.gives(func() { k.write(0, 1, api.ErrIO) })
		k.is(before+1, -1, 3, 4)
		// Whether what was appended is kept is the crash's to say.
		must(t, k.disk.Crash(nil, []int{99}))
		if l := k.batches(); len(l) != before {
			t.Error(l)
		}
		k.write(0, 1, api.OK, put(0, 1, 5, 1))
	}
}

// P17.2: a Trim of which a batch is refused in two zones: those ahead stay, and
// are the last ones.
func TestTrimRefused(t *testing.T) {
	k := newKit(t, wide, 0)
	four := slices.Repeat([]api.Span{s(2, 1)}, 4)
	must(t, k.disk.Fail(1))
	k.gives(func() { k.trim(four, api.OK, slices.Repeat([]api.Delta{hole(2, 1)}, 4)...) },
		wrote(3, 0, 1, api.ErrMedia), wrote(4, 0, 1, api.OK), wrote(4, 1, 1, api.OK), wrote(4, 2, 1, api.OK), wrote(4, 3, 1, api.OK))
	k.is(4, 4, 3)
	must(t, k.disk.Fail(2))
	k.gives(func() { k.trim(four, api.ErrIO) }, wrote(4, 4, 1, api.ErrMedia), wrote(5, 0, 1, api.ErrMedia))
	k.is(4, -1, 3, 4, 5)
	// The power goes behind two of them.
	must(t, k.disk.Stop(2))
	k.gives(func() { k.trim(four, api.ErrIO) }, wrote(6, 0, 1, api.OK), wrote(6, 1, 1, api.OK))
	k.is(6, -1, 3, 4, 5, 6, 7)
	must(t, k.disk.Crash(nil, []int{0, 9, 0, 9}))
	k.write(0, 1, api.OK, put(0, 1, 8, 1))
	k.is(7, 8, 3, 4, 5, 6, 7)
}

// P17.1: zones that can not be written, or are written too far, are bad, and the
// next one is taken.
func TestZonesNotHad(t *testing.T) {
	k := newKit(t, wide, 0)
	d := k.disk
	must(t, d.Hurt(3, api.ZoneReadOnly), d.Hurt(4, api.ZoneOffline), d.Finish(5), d.Write(6*10, some(10, 0)), d.Write(7*10, some(6, 0)), d.Write(8*10, some(5, 0)))
	k.gives(func() { k.write(0, 4, api.OK, put(0, 4, 8, 6)) }, wrote(8, 5, 5, api.OK))
	k.is(1, 8)
	k.roles(bad, bad, bad, bad, bad, active, free, free, free)
	// They are bad for good, and do not count among the cache's.
	must(t, d.Hurt(9, api.ZoneOffline))
	k.gives(func() { k.write(0, 4, api.OK, put(0, 4, 10, 1)) }, finished(8), wrote(10, 0, 5, api.OK))
	k.is(2, 10, 8)
	k.roles(bad, bad, bad, bad, bad, sealed, bad, active, free)
	// One zone is left free, whatever it is.
	k.write(0, 4, api.OK, put(0, 4, 10, 6))
	k.gives(func() { k.write(0, 4, api.ErrBusy) }, finished(10))
	k.roles(bad, bad, bad, bad, bad, sealed, bad, sealed, free)
	// Of zones that are bad one by one the last two are not all tried.
	k = newKit(t, wide, 0)
	for zone := 3; zone < 12; zone++ {
		must(t, k.disk.Hurt(zone, api.ZoneReadOnly))
	}
	k.gives(func() { k.write(0, 1, api.ErrBusy) })
	k.is(0, -1)
	k.roles(bad, bad, bad, bad, bad, bad, bad, bad, free)
}

// P17.1: behind a write that is refused a zone is had as at first: those that can
// not be written are bad.
func TestRefusedNotHad(t *testing.T) {
	k := newKit(t, wide, 0)
	must(t, k.disk.Fail(1), k.disk.Hurt(4, api.ZoneOffline), k.disk.Hurt(5, api.ZoneReadOnly))
	k.gives(func() { k.write(0, 4, api.OK, put(0, 4, 6, 1)) }, wrote(3, 0, 5, api.ErrMedia), wrote(6, 0, 5, api.OK))
	k.is(1, 6, 3)
	k.roles(sealed, bad, bad, active, free, free, free, free, free)
}

// The pool is shared: what others do with it holds.
func TestSharedPool(t *testing.T) {
	k := newKit(t, wide, 0)
	k.write(0, 2, api.OK, put(0, 2, 3, 1))
	// The active zone is bad by now: nothing more is written to it.
	must(t, k.pool.Set(3, bad))
	k.is(1, -1)
	k.gives(func() {
		if k.cache.PutBy() {
			t.Error("there is no active zone")
		}
		k.write(0, 2, api.OK, put(0, 2, 4, 1))
	}, wrote(4, 0, 3, api.OK))
	k.is(2, 4)
	// An active zone that others took is put by like one of the cache's own.
	must(t, k.pool.Set(4, bad))
	if zone, e := k.pool.Take(active); zone != 5 || e != api.OK {
		t.Fatal(zone, e)
	}
	k.is(2, 5)
	k.gives(func() { k.write(0, 2, api.OK, put(0, 2, 6, 1)) }, wrote(6, 0, 3, api.OK))
	k.is(3, 6, 5)
	// A spare zone and homes are not the cache's.
	if zone, e := k.pool.Take(spare); zone != 7 || e != api.OK {
		t.Fatal(zone, e)
	}
	must(t, k.pool.Set(7, home))
	if k.cache.Free(7) != api.ErrRole {
		t.Error("a home is freed")
	}
	k.cache.PutBy()
	k.write(0, 2, api.OK, put(0, 2, 8, 1))
	k.roles(bad, bad, sealed, sealed, home, active, free, free, free)
}
