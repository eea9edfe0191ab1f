package mount_test

import (
	"math"
	"slices"
	"testing"

	"thatch/api"
	"thatch/mount"
	"thatch/super"
	"thatch/zdisk"
)

// wantScan wants that just these batches stand in a zone.
func wantScan(t *testing.T, what string, d *zdisk.Disk, zone int, want ...api.Stood) {
	t.Helper()
	got, e := mount.Scan(d, zone)
	if e != api.OK || !slices.EqualFunc(got, want, sameStood) {
		t.Errorf("%s: %v %d, not %v", what, got, e, want)
	}
}

// P22.1: what stands in a zone.
func TestScan(t *testing.T) {
	d := formatted(t, small)
	one, two, three := data(9, s(3, 2)), holes(4, s(0, 33)), data(9, s(20, 4))
	lay(t, d, 3, sectors(t, small, one), sectors(t, small, two))
	all := []api.Stood{at(3, 0, one), at(3, 3, two), at(3, 4, three)}
	wantScan(t, "two", d, 3, all[:2]...)
	lay(t, d, 3, sectors(t, small, three)[:4*128])
	wantScan(t, "cut off", d, 3, all[:2]...)
	must(t, d.Write(3*12+8, sectors(t, small, three)[4*128:]))
	wantScan(t, "three", d, 3, all...)
	lay(t, d, 3, some(1, 0), sectors(t, small, two))
	wantScan(t, "none behind them", d, 3, all...)
	for zone := 2; zone < 8; zone++ {
		if zone != 3 {
			wantScan(t, "an empty zone", d, zone)
		}
	}
	// What stands in the whole zone, to its end.
	lay(t, d, 7, sectors(t, small, data(1, s(0, 8))), sectors(t, small, data(2, s(8, 2))))
	wantScan(t, "full", d, 7, at(7, 0, data(1, s(0, 8))), at(7, 9, data(2, s(8, 2))))
	// One that was finished, one that is hurt.
	lay(t, d, 4, sectors(t, small, two))
	must(t, d.Finish(4))
	wantScan(t, "finished", d, 4, at(4, 0, two))
	must(t, d.Hurt(3, api.ZoneReadOnly))
	wantScan(t, "read-only", d, 3, all...)
	must(t, d.Hurt(3, api.ZoneOffline))
	wantScan(t, "offline", d, 3)
	// A zone that does not begin with a batch.
	lay(t, d, 5, some(1, 4), sectors(t, small, two))
	wantScan(t, "a beginning of another kind", d, 5)
}

// P22.1: what stands behind a sector that can not be read is not found, nor a
// batch of which one is not.
func TestScanSpoiled(t *testing.T) {
	all := []api.Stood{at(2, 0, data(1, s(0, 3))), at(2, 4, holes(2, s(0, 3))), at(2, 5, data(3, s(5, 2)))}
	for off := range 9 {
		d := formatted(t, small)
		for _, x := range all {
			lay(t, d, 2, sectors(t, small, x.Batch))
		}
		lay(t, d, 2, some(1, 0))
		must(t, d.Spoil(24+off))
		n := []int{0, 0, 0, 0, 1, 2, 2, 2, 3}[off]
		wantScan(t, "spoiled", d, 2, all[:n]...)
		// It is read one by one, and no further.
		l := slices.Collect(d.Cmds())
		last := l[len(l)-1]
		if last.At != 24+off || last.N != 1 || last.Code != api.ErrMedia {
			t.Error(off, last)
		}
	}
}

// P22.1: what Scan refuses.
func TestScanRefused(t *testing.T) {
	refused := func(d *zdisk.Disk, zone int, want api.Errno) {
		t.Helper()
		if l, e := mount.Scan(d, zone); len(l) > 0 || e != want {
			t.Errorf("zone %d: %v %d, not %d", zone, l, e, want)
		}
	}
	d := formatted(t, small)
	lay(t, d, 2, sectors(t, small, holes(1, s(0, 1))))
	blank, e := zdisk.New(d.Shape())
	must(t, e)
	meta := d.Fork()
	must(t, meta.Write(2, some(1, 1)))
	other := d.Fork()
	sector, e := super.Encode(api.Super{Generation: 9, Geom: g(2, 6, 12, 3, 2), Epoch: 1})
	must(t, e, other.Write(1, sector))
	spoiled := d.Fork()
	must(t, spoiled.Spoil(0))
	off := d.Fork()
	must(t, off.Stop(0))
	for _, zone := range []int{2, 1, -1, 99} {
		refused(nil, zone, api.ErrGeom)
		refused(blank, zone, api.ErrSuper)
		refused(meta, zone, api.ErrMeta)
		refused(other, zone, api.ErrGeom)
		refused(spoiled, zone, api.ErrMedia)
		refused(off, zone, api.ErrOff)
	}
	for _, zone := range []int{math.MinInt, -1, 0, 1, 8, 255, math.MaxInt} {
		refused(d, zone, api.ErrArg)
	}
	wantScan(t, "none of that", d, 2, at(2, 0, holes(1, s(0, 1))))
}
