package stl_test

import (
	"testing"

	"thatch/api"
)

// sealedOne is a device of which zone 2 is sealed, in which sectors of all three
// bands lie; zone 3 is active.
func sealedOne(t *testing.T) *kit {
	t.Helper()
	k := newKit(t, small)
	k.write(0, 4, false, api.OK)
	k.write(13, 3, false, api.OK)
	k.write(22, 2, false, api.OK)
	k.write(5, 6, false, api.OK)
	return k
}

// P23.4: the cleaner's way, step by step, what it gives the disk, and what the
// device has behind it.
func TestSteps(t *testing.T) {
	k := sealedOne(t)
	k.status(api.Status{Free: 4, Cached: 2, Extents: 4, Pending: 4, Last: 4, Generation: 2})
	k.nothing(func() {
		k.step(true, api.OK, api.JobBand)
		k.step(true, api.OK, api.JobLabel)
	})
	k.status(api.Status{Free: 4, Cached: 2, Extents: 4, Pending: 4, Last: 4, Generation: 2, Job: api.JobLabel})
	k.gives(func() { k.step(true, api.OK, api.JobCopy) },
		read(2, 1, 4), read(3, 1, 6), written(4, 0, 1))
	k.gives(func() { k.step(true, api.OK, api.JobCopy) }, written(4, 1, 4))
	k.gives(func() { k.step(true, api.OK, api.JobCopy) }, written(4, 5, 4))
	k.gives(func() { k.step(true, api.OK, api.JobCommit) }, written(4, 9, 3))
	k.reads()
	k.lasts(false)
	// Four puts and the home are one record.
	k.gives(func() { k.step(true, api.OK, api.JobBand) }, flushed, k.conv(12), flushed)
	k.lasts(true)
	k.homes(4, nowhere, nowhere)
	k.extents(extent(13, 3, 2, 6), extent(22, 2, 2, 10))
	k.status(api.Status{Free: 3, Cached: 2, Extents: 2, Last: 4, Generation: 2, Job: api.JobBand})
	k.reads()
	k.steps(6)
	k.homes(4, 5, nowhere)
	k.steps(6)
	k.homes(4, 5, 6)
	k.extents()
	k.status(api.Status{Free: 1, Cached: 2, Last: 4, Generation: 2, Job: api.JobFree})
	k.gives(func() { k.step(true, api.OK, api.JobIdle) }, emptied(2))
	k.status(api.Status{Free: 2, Cached: 1, Last: 4, Generation: 2})
	k.nothing(func() { k.step(false, api.OK, api.JobIdle) })
	k.reads()
	k.verified()
	k.crash()
	k.reads()
}

// P23.4: a band that has a home already: that is emptied, when the new one lasts.
func TestStepsOldHome(t *testing.T) {
	k := homely(t)
	k.write(2, 3, false, api.OK)
	k.write(8, 6, false, api.OK)
	k.write(2, 1, false, api.OK)
	// Zones 3, 6 and 7 were free: 3 and 6 are the cache's now, 7 is spare.
	k.till(api.JobCommit)
	k.gives(func() { k.step(true, api.OK, api.JobBand) }, flushed, k.conv(15), flushed, emptied(4))
	k.homes(7, 5, 2)
	if z := k.dev.Status(); z.Free != 1 || z.Pending != 0 {
		t.Error(z)
	}
	k.reads()
	k.till(api.JobFree)
	k.homes(7, 4, 2)
	k.reads()
	k.verified()
	// A change that is not committed may be of the zone that is freed.
	k.discard(30, 1, api.OK)
	k.gives(func() { k.step(true, api.OK, api.JobIdle) }, flushed, k.conv(17), flushed, emptied(3))
	k.lasts(true)
}

// P23.4: by one policy the zone that was sealed first is picked, by the other one
// that of which the fewest sectors are needed, and of equal ones the first.
func TestPick(t *testing.T) {
	for policy, order := range map[int][]int{fifo: {3, 4, 5}, greedy: {4, 3, 5}} {
		k := newKit(t, wide)
		must(t, k.dev.SetPolicy(policy))
		k.write(0, 8, false, api.OK)
		k.write(10, 7, false, api.OK)
		k.discard(10, 5, api.OK)
		k.discard(0, 1, api.OK) // zone 4 is full; 2 of it are needed, 7 of zone 3
		k.write(20, 7, false, api.OK)
		k.discard(30, 1, api.OK)
		k.discard(31, 1, api.OK)
		k.write(35, 1, false, api.OK)
		for _, zone := range order {
			k.till(api.JobFree)
			from := len(k.given(0))
			k.step(true, api.OK, api.JobIdle)
			l := k.given(from)
			if c := l[len(l)-1]; c.Kind != api.CmdReset || c.Zone != zone {
				t.Errorf("policy %d: %v, not zone %d", policy, l, zone)
			}
		}
		k.step(false, api.OK, api.JobIdle)
		k.reads()
	}
}

// P23.4: where the map's extents and six are more than the layout's, all bands
// that are touched are brought home, by holes too, and no zone is freed.
func TestPickCrowded(t *testing.T) {
	k := newKit(t, crowded)
	for i := range 7 {
		k.discard(40+2*i, 1, api.OK)
	}
	// Seven and six are no more than 13, and no zone is sealed.
	k.step(false, api.OK, api.JobIdle)
	k.write(0, 1, false, api.OK)
	if z := k.dev.Status(); z.Extents != 8 || z.Cached != 2 {
		t.Fatal(z)
	}
	// Bands 0, 5, 6 and 7: each takes three steps and two chunks.
	k.step(true, api.OK, api.JobBand)
	from := len(k.given(0))
	k.steps(4*5 - 1)
	k.step(true, api.OK, api.JobIdle)
	for _, c := range k.given(from) {
		if c.Kind == api.CmdReset {
			t.Error("emptied", c)
		}
	}
	k.extents()
	for b, home := range k.dev.State().Homes {
		if is := b == 0 || b >= 5 && b <= 7; is != (home != nowhere) {
			t.Error("band", b, home)
		}
	}
	k.reads()
	// Zone 2 is sealed, and nothing lies there.
	k.step(true, api.OK, api.JobFree)
	k.gives(func() { k.step(true, api.OK, api.JobIdle) }, emptied(2))
	k.step(false, api.OK, api.JobIdle)
}

// P23.4: what is picked are the bands of which a sector lies in the zone, not those
// that are touched else, nor those that lie there no more.
func TestPickBands(t *testing.T) {
	k := newKit(t, wide)
	k.write(0, 2, false, api.OK)
	k.write(9, 2, false, api.OK)
	k.write(27, 2, false, api.OK)
	k.discard(9, 2, api.OK)
	k.write(18, 8, false, api.OK)
	k.write(30, 8-2, false, api.OK)
	k.till(api.JobFree)
	homes := k.dev.State().Homes
	for b, is := range []bool{true, false, false, true} {
		if is != (homes[b] != nowhere) {
			t.Error("band", b, homes[b])
		}
	}
	k.reads()
}

// P23.4: chunks: the greatest one, one that fits, one that leaves a rest, single
// sectors.
func TestChunks(t *testing.T) {
	for chunk, parts := range map[int]int{1: 11, 2: 6, 5: 3, 10: 2, 11: 1, 12: 1, 4096: 1} {
		k := sealedOne(t)
		must(t, k.dev.Unmount())
		k.opts = options(chunk, greedy)
		k.mount()
		k.till(api.JobCopy)
		n := 0
		for ; k.dev.Status().Job == api.JobCopy; n++ {
			k.steps(1)
		}
		if n != parts {
			t.Errorf("chunk %d: %d parts, not %d", chunk, n, parts)
		}
		k.drain()
		k.reads()
	}
}

// P23.2 to P23.4: where the job's band is written, or discarded, the spare zone is
// given back, and the band begins anew; other bands do not matter.
func TestTouch(t *testing.T) {
	for _, job := range []int{api.JobLabel, api.JobCopy, api.JobCommit} {
		for what, do := range map[string]func(k *kit){
			"written":               func(k *kit) { k.write(10, 1, false, api.OK) },
			"written, the last run": func(k *kit) { k.write(10, 2, false, api.OK) },
			"discarded":             func(k *kit) { k.discard(0, 1, api.OK) },
			"all is discarded":      func(k *kit) { k.discard(0, 33, api.OK) },
			"another band":          func(k *kit) { k.write(11, 2, false, api.OK) },
			"another one discarded": func(k *kit) { k.discard(11, 22, api.OK) },
		} {
			k := sealedOne(t)
			k.till(job)
			was := k.dev.Status()
			from := len(k.given(0))
			do(k)
			now := k.dev.Status()
			emptied := 0
			for _, c := range k.given(from) {
				if c.Kind == api.CmdReset && c.Zone == 4 {
					emptied++
				}
			}
			if what[:5] == "anoth" {
				if now.Job != job || emptied > 0 || now.Free != was.Free {
					t.Errorf("%s: %+v, emptied %d", what, now, emptied)
				}
			} else if now.Job != api.JobBand || now.Free != was.Free || (emptied == 1) != (job != api.JobLabel) {
				t.Errorf("%s in state %d: %+v, emptied %d", what, job, now, emptied)
			}
			k.reads()
			k.till(api.JobFree)
			k.reads()
			k.drain()
			k.reads()
			k.verified()
		}
	}
	// Ahead of a spare zone, and behind all bands, nothing is touched.
	for _, job := range []int{api.JobBand, api.JobFree} {
		k := sealedOne(t)
		k.till(job)
		k.write(0, 1, false, api.OK)
		if k.dev.Status().Job != job {
			t.Error(k.dev.Status())
		}
	}
}

// P23.2: of a write over a border the second band is written, too.
func TestTouchSecond(t *testing.T) {
	for n, job := range map[int]int{1: api.JobLabel, 2: api.JobBand} {
		k := sealedOne(t)
		k.till(api.JobCommit)
		k.steps(2)
		// Band 1 is the job's, which begins with sector 11.
		k.write(10, n, false, api.OK)
		if z := k.dev.Status(); z.Job != job {
			t.Error(n, z)
		}
		k.reads()
	}
}

// failsAt steps till the job has a state, lets do break something, and wants that
// the step behind it fails: the job is idle, and the spare zone free, or bad.
func failsAt(t *testing.T, job int, do func(k *kit), bad ...int) *kit {
	t.Helper()
	k := sealedOne(t)
	k.till(job)
	was := k.dev.Status()
	do(k)
	k.step(true, api.ErrIO, api.JobIdle)
	z := k.dev.Status()
	if z.Free != was.Free-len(bad) || z.Pending != was.Pending+len(bad) || z.ReadOnly {
		t.Errorf("state %d: %+v, was %+v", job, z, was)
	}
	k.isBad(bad...)
	k.homes(nowhere, nowhere, nowhere)
	return k
}

// P23.4: what fails: a spare zone that can not be written, or goes bad; a band that
// can not be read; a label, a chunk that is refused.
func TestStepFails(t *testing.T) {
	hurt := func(k *kit) { must(k.t, k.disk.Hurt(4, api.ZoneReadOnly)) }
	offline := func(k *kit) { must(k.t, k.disk.Hurt(4, api.ZoneOffline)) }
	fail := func(k *kit) { must(k.t, k.disk.Fail(1)) }
	failsAt(t, api.JobBand, hurt, 4).afterFail()
	failsAt(t, api.JobBand, offline, 4).afterFail()
	// Nothing is written of a zone of which the label was refused: it is free as it
	// is, or, if it can not be emptied, bad.
	k := failsAt(t, api.JobLabel, fail)
	if z := k.zone(4); z.State != api.ZoneEmpty {
		t.Error(z)
	}
	k.afterFail()
	failsAt(t, api.JobLabel, hurt, 4).afterFail()
	k = failsAt(t, api.JobCopy, fail)
	if z := k.zone(4); z.State != api.ZoneEmpty {
		t.Error(z)
	}
	k.afterFail()
	failsAt(t, api.JobCopy, hurt, 4).afterFail()
	failsAt(t, api.JobCopy, offline, 4).afterFail()
	// A sector of band 0 in the cache.
	k = failsAt(t, api.JobLabel, func(k *kit) { must(k.t, k.disk.Spoil(3*12+1)) })
	if _, e := k.dev.Read(5, 1); e != api.ErrIO {
		t.Error(e)
	}
	k.till(api.JobLabel)
	k.step(true, api.ErrIO, api.JobIdle)
	// It is read when the label is written, and not later.
	k = sealedOne(t)
	k.till(api.JobCopy)
	must(t, k.disk.Spoil(3*12+1))
	k.till(api.JobFree)
	k.reads()
}

// afterFail wants that the cleaner goes on, and nothing is lost.
func (k *kit) afterFail() {
	k.t.Helper()
	k.reads()
	k.till(api.JobFree)
	k.reads()
	k.steps(1)
	k.lasts(true)
	k.verified()
	k.crash()
	k.reads()
}

// P23.4: where no zone can be taken it is ErrBusy, and the job is idle.
func TestNoSpare(t *testing.T) {
	k := sealedOne(t)
	for zone := 4; zone < 8; zone++ {
		must(t, k.disk.Hurt(zone, api.ZoneReadOnly))
		k.till(api.JobBand)
		k.step(true, api.ErrIO, api.JobIdle)
	}
	k.isBad(4, 5, 6, 7)
	k.status(api.Status{Cached: 2, Extents: 4, Pending: 8, Last: 4, Generation: 2})
	k.till(api.JobBand)
	k.nothing(func() { k.step(true, api.ErrBusy, api.JobIdle) })
	if n, e := k.dev.Drain(); n != 2 || e != api.ErrBusy {
		t.Error("Drain", n, e)
	}
	k.reads()
}

// P23.4: where the change of a home is refused the device is read-only, the job
// stays as it is; the band is read where it was to be.
func TestCommitRefused(t *testing.T) {
	k := sealedOne(t)
	k.till(api.JobCommit)
	must(t, k.disk.Fail(1))
	k.step(true, api.ErrReadOnly, api.JobCommit)
	k.homes(4, nowhere, nowhere)
	k.status(api.Status{ReadOnly: true, Free: 4, Cached: 2, Extents: 2, Pending: 5, Last: 4, Generation: 2, Job: api.JobCommit})
	k.wantReadOnly()
	// Likewise ahead of a zone that is to be freed.
	k = sealedOne(t)
	k.till(api.JobFree)
	k.discard(32, 1, api.OK)
	must(t, k.disk.Fail(1))
	k.step(true, api.ErrReadOnly, api.JobFree)
	if z := k.zone(2); z.Written != 12 {
		t.Error("emptied", z)
	}
	k.wantReadOnly()
	k.crash()
	k.plain = make([]byte, len(k.plain))
	copy(k.plain, sealedOne(t).plain)
	k.reads()
}

// P23.4: a home that can not be emptied goes bad, when the new one lasts; so does
// a zone of the cache.
func TestGoesBad(t *testing.T) {
	k := homely(t)
	k.write(2, 3, false, api.OK)
	k.write(8, 6, false, api.OK)
	k.write(2, 1, false, api.OK)
	k.till(api.JobCommit)
	must(t, k.disk.Hurt(4, api.ZoneReadOnly))
	k.step(true, api.OK, api.JobBand)
	k.homes(7, 5, 2)
	k.isBad(4)
	if z := k.dev.Status(); z.Pending != 1 || z.Free != 0 {
		t.Error(z)
	}
	k.reads()
	k.flush(api.OK)
	k.lasts(true)
	k.crash()
	k.isBad(4)
	k.reads()

	k = sealedOne(t)
	k.till(api.JobFree)
	must(t, k.disk.Hurt(2, api.ZoneOffline))
	is, _ := k.dev.Step()
	z := k.dev.Status()
	if !is || z.Job != api.JobIdle || z.Pending != 1 || z.Cached != 1 || z.Free != 1 {
		t.Error(is, z)
	}
	k.isBad(2)
	k.step(false, api.OK, api.JobIdle)
	k.flush(api.OK)
	k.lasts(true)
	k.reads()
}

// P23.8: Drain: how many steps had something to do; the active zone is put by, and
// all is committed.
func TestDrain(t *testing.T) {
	k := newKit(t, small)
	k.gives(func() {
		if n, e := k.dev.Drain(); n != 0 || e != api.OK {
			t.Error(n, e)
		}
	}, flushed)
	k = sealedOne(t)
	// Zone 2: to pick it, three bands of three steps and three chunks, to free it;
	// zone 3: to pick and to free it.
	if n, e := k.dev.Drain(); n != 22 || e != api.OK {
		t.Error(n, e)
	}
	k.atHome()
	k.verified()
	k.lasts(true)
	// A change that is not committed is, though nothing is to be cleaned.
	k = sealedOne(t)
	k.drain()
	k.discard(32, 1, api.OK)
	k.gives(func() {
		if n, e := k.dev.Drain(); n != 2 || e != api.OK {
			t.Error(n, e)
		}
	}, finished(2), flushed, k.conv(15), flushed, emptied(2), flushed)
	k.lasts(true)
	// In the middle of a job.
	k = sealedOne(t)
	k.steps(4)
	if n, e := k.dev.Drain(); n != 18 || e != api.OK {
		t.Error(n, e)
	}
	k.atHome()
	k.reads()
}

// P23.8: a failing step is counted, and is the last one; so is one that is refused
// to commit; the commit behind the steps is not one.
func TestDrainFails(t *testing.T) {
	k := sealedOne(t)
	must(t, k.disk.Fail(1))
	if n, e := k.dev.Drain(); n != 3 || e != api.ErrIO {
		t.Error(n, e)
	}
	if z := k.dev.Status(); z.Job != api.JobIdle || z.Cached != 2 {
		t.Error(z)
	}
	k.reads()
	k = sealedOne(t)
	k.till(api.JobCommit)
	must(t, k.disk.Fail(1))
	if n, e := k.dev.Drain(); n != 1 || e != api.ErrReadOnly {
		t.Error(n, e)
	}
	k.wantReadOnly()
}
