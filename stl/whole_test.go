package stl_test

import (
	"bytes"
	"testing"

	"thatch/api"
	"thatch/geom"
	"thatch/victim"
)

// busy does a request, anew behind each step, till it is not busy any more: as
// many steps as Bound says are enough. It tells whether it was busy at all.
func (k *kit) busy(do func() api.Errno) bool {
	k.t.Helper()
	bound := victim.Bound(k.geom, k.opts.Chunk)
	for n := 0; ; n++ {
		e := do()
		if e != api.ErrBusy {
			k.want("behind steps", e, api.OK)
			return n > 0
		}
		if n == bound {
			k.t.Fatal("still busy")
		}
		// Busy changed nothing.
		k.all()
		if is, e := k.dev.Step(); e != api.OK || !is {
			k.t.Fatalf("busy, and step %d: %t %d", n, is, e)
		}
	}
}

// all wants that all sectors are what the plain array has.
func (k *kit) all() {
	k.t.Helper()
	if b, e := k.dev.Read(0, len(k.plain)/128); e != api.OK || !bytes.Equal(b, k.plain) {
		k.t.Fatalf("not as a plain array: %d", e)
	}
}

// someRequest does a request, and with a plain array, too; it tells whether it
// was busy.
func (k *kit) someRequest(number func(int) int) bool {
	k.t.Helper()
	long := len(k.plain) / 128
	n := 1 + number(layout(k.geom).Run)
	x := s(number(long-n+1), n)
	if number(4) == 0 {
		n = 1 + number(long/2)
		x = s(number(long-n+1), n)
		was := k.busy(func() api.Errno { return k.dev.Discard(x) })
		clear(k.plain[x.At*128 : (x.At+x.N)*128])
		return was
	}
	k.seed++
	b, fua := some(n, k.seed*31), number(8) == 0
	was := k.busy(func() api.Errno { return k.dev.Write(x.At, b, fua) })
	copy(k.plain[x.At*128:], b)
	return was
}

// ruled wants that no command was refused, and no zone was emptied where something
// lay, by the map that lasted.
func (k *kit) ruled() {
	k.t.Helper()
	for c := range k.disk.Cmds() {
		if c.Code != api.OK || c.Opens > k.geom.Limit {
			k.t.Fatalf("against the rules: %v", c)
		}
	}
}

// P23.6, P1, P4: a plain device, where nothing crashes or fails; behind ErrBusy as
// many steps as Bound are enough; there is always a zone that is free, or spare.
func TestPlainDevice(t *testing.T) {
	waited := map[api.Geom]int{}
	for seed := range uint64(60) {
		x := []api.Geom{small, narrow, wide, crowded, g(2, 7, 9, 2, 5)}[seed%5]
		number := numbers(seed)
		k := newKit(t, x)
		k.opts = options([]int{1, 4, 9, 4096}[number(4)], 1+number(2))
		k.mount()
		for range 150 {
			if k.someRequest(number) {
				waited[x]++
			}
			for range number(3) * number(4) {
				if _, e := k.dev.Step(); e != api.OK {
					t.Fatal(e)
				}
			}
			if number(30) == 0 {
				must(t, k.dev.SetPolicy(1+number(2)))
			}
			if number(40) == 0 {
				must(t, k.dev.Unmount())
				k.mount()
			}
			if k.dev.Status().Free < 1 || k.dev.Status().ReadOnly {
				t.Fatal("no zone is free", k.dev.Status())
			}
			k.all()
		}
		k.reads()
		k.ruled()
		if t.Failed() {
			t.Fatal(seed)
		}
	}
	for _, x := range []api.Geom{small, narrow, wide, crowded} {
		if waited[x] < 50 {
			t.Error(x, "was busy", waited[x], "times")
		}
	}
}

// atHome wants that no zone is the cache's, and nothing lies but in homes: a sector
// is there, or bytes 0.
func (k *kit) atHome() {
	k.t.Helper()
	if z := k.dev.Status(); z.Cached != 0 || z.Pending != 0 || z.Job != api.JobIdle {
		k.t.Fatalf("drained: %+v", z)
	}
	homes := k.dev.State().Homes
	for at := range layout(k.geom).Sectors {
		b, i := geom.Band(k.geom, at)
		zone, off, e := k.dev.Where(at)
		if e != api.OK || zone != nowhere && (zone != homes[b] || off != i+1) {
			k.t.Fatalf("sector %d lies in %d, %d: %d", at, zone, off, e)
		}
	}
	for _, x := range k.dev.State().Extents {
		if x.Zone != nowhere {
			k.t.Fatal("something lies in the cache:", x)
		}
	}
}

// P23.9: behind Drain no zone is the cache's, nothing lies but in homes, each
// sector reads as before; Verify tells no band, and there is nothing to do.
func TestDrained(t *testing.T) {
	for seed := range uint64(60) {
		x := []api.Geom{small, narrow, wide, crowded}[seed%4]
		number := numbers(300 + seed)
		k := newKit(t, x)
		k.opts = options(1+number(12), 1+number(2))
		k.mount()
		for range 1 + number(5) {
			for range number(30) {
				k.someRequest(number)
			}
			k.drain()
			k.atHome()
			if l, e := k.dev.Verify(); len(l) > 0 || e != api.OK {
				t.Fatal(l, e)
			}
			k.reads()
			k.nothing(func() { k.step(false, api.OK, api.JobIdle) })
			// What was drained lasts.
			k.crash()
			k.reads()
			k.atHome()
		}
	}
}
