package stl_test

import (
	"testing"

	"thatch/api"
	"thatch/meta"
)

// goes lets the power go behind n commands of what is done, and wants what is told
// of it; the disk has to be off then, the device to be ErrOff.
func (k *kit) goes(what string, n int, do func() api.Errno, want api.Errno) {
	k.t.Helper()
	must(k.t, k.disk.Stop(n))
	if e := do(); e != want {
		k.t.Errorf("%s, and the power goes behind %d: %d, not %d", what, n, e, want)
	}
	if !k.disk.Off() {
		k.t.Fatalf("%s, and the power does not go behind %d", what, n)
	}
	if e := k.dev.Flush(); e != api.ErrOff && e != api.ErrClosed {
		k.t.Errorf("%s, Flush: %d", what, e)
	}
}

// stepOf is the code of a step, which has to be one that has something to do.
func (k *kit) stepOf() api.Errno {
	is, e := k.dev.Step()
	if !is {
		k.t.Error("nothing to do")
	}
	return e
}

// Where the power is gone at the end of a call, that is told of what was refused;
// what did what it had to is OK all the same, but for two kinds of steps.
func TestPowerGoes(t *testing.T) {
	for _, x := range []struct {
		what     string
		begin    func(t *testing.T) *kit
		job      int
		do       func(k *kit) api.Errno
		commands int
		code     api.Errno // where the last of the commands is done, too
	}{
		{"Flush", sealedOne, 0, func(k *kit) api.Errno { return k.dev.Flush() }, 3, api.OK},
		{"Flush of nothing", homely, 0, func(k *kit) api.Errno { return k.dev.Flush() }, 1, api.OK},
		{"Write", sealedOne, 0, func(k *kit) api.Errno { return k.dev.Write(0, some(1, 5), false) }, 1, api.OK},
		{"Write of two runs", sealedOne, 0, func(k *kit) api.Errno { return k.dev.Write(10, some(2, 5), false) }, 2, api.OK},
		{"Write, fua", sealedOne, 0, func(k *kit) api.Errno { return k.dev.Write(0, some(1, 5), true) }, 4, api.OK},
		{"Discard", sealedOne, 0, func(k *kit) api.Errno { return k.dev.Discard(s(0, 33)) }, 1, api.OK},
		{"Unmount", homely, 0, func(k *kit) api.Errno { return k.dev.Unmount() }, 5, api.OK},
		{"a busy write", sealedOne, 0, func(k *kit) api.Errno { return k.dev.Write(0, some(6, 5), false) }, 1, api.ErrOff},
		{"a label", sealedOne, api.JobLabel, (*kit).stepOf, 1, api.OK},
		{"a chunk", sealedOne, api.JobCopy, (*kit).stepOf, 1, api.OK},
		{"a home", sealedOne, api.JobCommit, (*kit).stepOf, 3, api.ErrOff},
		{"a zone", sealedOne, api.JobFree, (*kit).stepOf, 1, api.ErrOff},
	} {
		for n := 1; n <= x.commands; n++ {
			k := x.begin(t)
			if x.job != 0 {
				k.till(x.job)
			}
			want := x.code
			if n < x.commands {
				want = api.ErrOff
			}
			k.goes(x.what, n, func() api.Errno { return x.do(k) }, want)
			k.crash()
			k.verified()
			b, e := k.dev.Read(0, 33)
			if e != api.OK || len(b) != 33*128 {
				t.Errorf("%s: %d", x.what, e)
			}
		}
	}
}

// The old home is emptied behind the commit: the power may go ahead of that, or
// with it.
func TestPowerGoesOldHome(t *testing.T) {
	for n := 1; n <= 4; n++ {
		k := homely(t)
		k.write(2, 3, false, api.OK)
		k.write(8, 6, false, api.OK)
		k.write(2, 1, true, api.OK)
		k.till(api.JobCommit)
		k.goes("a home", n, k.stepOf, api.ErrOff)
		k.crash()
		if n < 3 {
			k.homes(4, 5, 2)
		} else {
			k.homes(7, 5, 2)
		}
		k.reads()
		k.isBad()
	}
}

// ErrBusy of the room for changes is told though the power is gone; what refused
// the commit ahead of it is not.
func TestPowerGoesRoom(t *testing.T) {
	for n := 1; n <= 3; n++ {
		k := newKit(t, crowded)
		for i := range 11 {
			k.discard(2*i, 1, api.OK)
		}
		want := api.ErrOff
		if n == 3 {
			want = api.ErrBusy
		}
		k.goes("Discard", n, func() api.Errno { return k.dev.Discard(s(0, 1)) }, want)
		k.crash()
		k.reads()
	}
}

// Drain ends where the power goes, at whichever command.
func TestPowerGoesDrain(t *testing.T) {
	k := sealedOne(t)
	from := len(k.given(0))
	k.drain()
	commands := 0
	for _, c := range k.given(from) {
		if c.Kind != api.CmdRead {
			commands++
		}
	}
	steps := 0
	for n := 1; n < commands; n++ {
		k := sealedOne(t)
		must(t, k.dev.Flush())
		must(t, k.disk.Stop(n))
		done, e := k.dev.Drain()
		if e != api.ErrOff || done < steps || done > 22 || !k.disk.Off() {
			t.Errorf("behind %d: %d %d", n, done, e)
		}
		steps = done
		k.crash()
		k.reads()
	}
	if steps < 20 {
		t.Error(steps)
	}
}

// P23.5: all lasts, as a checkpoint that is clean; the device is unmounted.
func TestUnmount(t *testing.T) {
	k := sealedOne(t)
	k.gives(func() { must(t, k.dev.Unmount()) },
		flushed, k.conv(12), flushed, k.conv(2), k.conv(3), flushed, k.conv(1), flushed)
	k.lasts(true)
	m, _, e := meta.Load(k.disk.Fork())
	if e != api.OK || !m.Super().Clean || m.Super().Generation != 3 {
		t.Error(e, m.Super())
	}
	if z := k.dev.Status(); z.Generation != 3 || z.Pending != 0 || z.ReadOnly {
		t.Error(z)
	}
	k.crash()
	k.reads()
	if z := k.dev.Status(); z.Generation != 4 {
		t.Error(z)
	}
	// A job that is not done is let go.
	k.till(api.JobCommit)
	must(t, k.dev.Unmount())
	k.mount()
	if z := k.dev.Status(); z.Job != api.JobIdle || z.Free != 4 {
		t.Error(z)
	}
	k.reads()
}

// P23.5: where the commit is refused, or the checkpoint, it is unmounted all the
// same.
func TestUnmountFails(t *testing.T) {
	for zone, written := range []int{1, 0} {
		k := sealedOne(t)
		// The journal is in zone 1, superblocks and checkpoints are in zone 0.
		must(t, k.disk.Hurt(zone, api.ZoneReadOnly))
		k.want("Unmount", k.dev.Unmount(), api.ErrReadOnly)
		k.want("Unmount", k.dev.Unmount(), api.ErrClosed)
		k.want("Flush", k.dev.Flush(), api.ErrClosed)
		records := 0
		for _, c := range k.given(0) {
			if c.Kind == api.CmdWrite && c.Zone == 1 && c.Code == api.OK {
				records++
			}
		}
		if records != 12+written {
			t.Error("zone", zone, "records", records)
		}
		if zone == 0 {
			k.crash()
			k.wantReadOnly()
		}
	}
	k := sealedOne(t)
	must(t, k.disk.Fail(1))
	k.flush(api.ErrReadOnly)
	k.nothing(func() { k.want("Unmount", k.dev.Unmount(), api.ErrReadOnly) })
	k.want("Flush", k.dev.Flush(), api.ErrClosed)
}

// P23.2: a commit that is refused, of Flush, of a FUA write, or for want of room,
// lets the device be read-only.
func TestRefused(t *testing.T) {
	k := sealedOne(t)
	must(t, k.disk.Fail(1))
	k.flush(api.ErrReadOnly)
	if z := k.dev.Status(); !z.ReadOnly || z.Pending != 4 {
		t.Error(z)
	}
	k.wantReadOnly()
	k = sealedOne(t)
	must(t, k.disk.Hurt(0, api.ZoneReadOnly), k.disk.Hurt(1, api.ZoneReadOnly))
	b := some(1, 8)
	k.want("Write", k.dev.Write(30, b, true), api.ErrReadOnly)
	copy(k.plain[30*128:], b)
	k.wantReadOnly()
	k = newKit(t, crowded)
	for i := range 4 {
		k.write(2*i, 1, false, api.OK)
	}
	must(t, k.disk.Fail(1))
	k.write(50, 1, false, api.ErrReadOnly)
	if z := k.dev.Status(); !z.ReadOnly || z.Pending != 4 || z.Last != 4 {
		t.Error(z)
	}
	k.reads()
	// A flush that has nothing to write is OK, whatever can not be written.
	k = newKit(t, small)
	must(t, k.disk.Hurt(0, api.ZoneReadOnly), k.disk.Hurt(1, api.ZoneReadOnly))
	k.flush(api.OK)
	if k.dev.Status().ReadOnly {
		t.Error("read-only")
	}
}

// P23.6: a home by which the map has more extents than the layout can not be
// committed: the device is read-only from then on, and reads on.
func TestTooManyExtents(t *testing.T) {
	k := newKit(t, crowded)
	k.discard(0, 98, api.OK)
	// Bands 4 and 8 lie in zone 2, which is sealed.
	for _, at := range []int{31, 59, 31} {
		k.write(at, 1, false, api.OK)
	}
	k.discard(0, 1, api.OK)
	k.write(90, 1, false, api.OK)
	if z := k.dev.Status(); z.Extents != 7 || z.Cached != 2 {
		t.Fatal(z)
	}
	k.step(true, api.OK, api.JobBand)
	// By now there is one hole over all bands, of which these are in the midst.
	k.discard(0, 98, api.OK)
	for _, at := range []int{10, 11, 20, 40, 70, 80} {
		k.write(at, 1, false, api.OK)
	}
	if z := k.dev.Status(); z.Extents != 12 || z.ReadOnly {
		t.Fatal(z)
	}
	k.till(api.JobCommit)
	k.step(true, api.OK, api.JobBand)
	if z := k.dev.Status(); z.Extents != 13 || z.ReadOnly {
		t.Fatal(z)
	}
	k.till(api.JobCommit)
	k.step(true, api.ErrReadOnly, api.JobCommit)
	if z := k.dev.Status(); z.Extents != 14 || !z.ReadOnly || z.Pending != 1 {
		t.Fatal(z)
	}
	k.reads()
	k.want("Flush", k.dev.Flush(), api.ErrReadOnly)
	k.want("Unmount", k.dev.Unmount(), api.ErrReadOnly)
	k.mount()
	k.reads()
}
