package meta_test

import (
	"slices"
	"testing"

	"thatch/api"
	"thatch/geom"
	"thatch/meta"
	"thatch/zdisk"
)

// formatCmds are the commands of a format behind which so many pages stand; the
// zones are those that are not empty.
func formatCmds(x api.Geom, pages int, zones ...int) []cmd {
	l := append(writes(x, 0, 2), flush())
	l = append(l, writes(x, 2, x.Conv*x.Len-2)...)
	for _, zone := range zones {
		l = append(l, cmd{kind: api.CmdReset, zone: zone})
	}
	return append(l, checkpointCmds(x, 1, 0, pages)...)
}

// formattedSectors are the conventional sectors behind a format.
func formattedSectors(t *testing.T, x api.Geom, s api.State) [][]byte {
	t.Helper()
	l := blanks(x)
	lay(t, l, api.Super{Generation: 1, Geom: x, Epoch: 1, Clean: true}, s)
	return l
}

// used is a disk of a geometry, each sector of which was written, of the
// sequential zones more or less.
func used(t *testing.T, x api.Geom) *zdisk.Disk {
	t.Helper()
	d := newDisk(t, geom.Shape(x))
	b := make([]byte, 128)
	for i := range b {
		b[i] = byte(i) | 1
	}
	for at := range x.Conv * x.Len {
		must(t, d.Write(at, b))
	}
	for i := range x.Seq {
		for range min(i*3, x.Len) {
			z, e := d.Zone(x.Conv + i)
			must(t, e, d.Write(z.Start+z.Written, b))
		}
	}
	must(t, d.Finish(x.Conv+1), d.Flush())
	return d
}

// P21.1: which commands a format gives, and what stands behind them.
func TestFormat(t *testing.T) {
	for _, x := range layouts {
		d := newDisk(t, geom.Shape(x.g))
		gives(t, "a new disk", d, func() { must(t, meta.Format(d, x.g)) }, formatCmds(x.g, 1)...)
		standsJust(t, "a new disk", d, formattedSectors(t, x.g, empty(x.g)))
		var zones []int
		for i := 1; i < x.g.Seq; i++ {
			zones = append(zones, x.g.Conv+i)
		}
		d = used(t, x.g)
		gives(t, "a used disk", d, func() { must(t, meta.Format(d, x.g)) }, formatCmds(x.g, 1, zones...)...)
		standsJust(t, "a used disk", d, formattedSectors(t, x.g, empty(x.g)))
		for i := range x.g.Seq {
			if z, _ := d.Zone(x.g.Conv + i); z.State != api.ZoneEmpty {
				t.Error(z)
			}
		}
		if d.Unsure() > 0 {
			t.Error("unsure", d.Unsure())
		}
		m, s := load(t, d)
		if !same(s, empty(x.g)) || m.Super() != (api.Super{Generation: 1, Geom: x.g, Epoch: 1, Clean: true}) || m.Room() != 0 || m.Dead() {
			t.Error(s, m.Super())
		}
	}
}

// P21.1: zones that can not be written any more are bad, and left as they are.
func TestFormatHurt(t *testing.T) {
	d := used(t, small)
	must(t, d.Hurt(3, api.ZoneReadOnly), d.Hurt(5, api.ZoneOffline))
	want := empty(small)
	want.Bad[1], want.Bad[3] = true, true
	gives(t, "two hurt zones", d, func() { must(t, meta.Format(d, small)) }, formatCmds(small, 1, 4, 6)...)
	standsJust(t, "two hurt zones", d, formattedSectors(t, small, want))
	if _, s := load(t, d); !same(s, want) {
		t.Error(s)
	}
	d = newDisk(t, geom.Shape(small))
	for i := range 5 {
		must(t, d.Hurt(2+i, api.ZoneReadOnly))
		want.Bad[i] = true
	}
	must(t, meta.Format(d, small))
	if _, s := load(t, d); !same(s, want) {
		t.Error(s)
	}
}

// P21.1: geometries and disks that do not go together.
func TestFormatRefused(t *testing.T) {
	refused := func(d *zdisk.Disk, x api.Geom) {
		t.Helper()
		gives(t, "refused", d, func() {
			if e := meta.Format(d, x); e != api.ErrGeom {
				t.Errorf("%v: %d", x, e)
			}
		})
	}
	d := newDisk(t, geom.Shape(small))
	for _, x := range append(brokenGeoms(), narrow, odd, g(3, 5, 16, 2, 2), g(2, 6, 16, 2, 2), g(2, 5, 17, 2, 2), g(2, 5, 16, 3, 2)) {
		refused(d, x)
		refused(nil, x)
	}
	refused(nil, small)
	must(t, d.Stop(0))
	refused(d, narrow)
	// Shapes of which no geometry may be.
	for _, x := range []api.Shape{{Conv: 1, Seq: 5, Len: 16, Limit: 2}, {Conv: 2, Seq: 3, Len: 16, Limit: 2}, {Conv: 2, Seq: 5, Len: 4, Limit: 2}, {Conv: 2, Seq: 5, Len: 16, Limit: 1}} {
		refused(newDisk(t, x), api.Geom{Conv: x.Conv, Seq: x.Seq, Len: x.Len, Limit: x.Limit, Cache: 1})
	}
	// What the cache has is no matter of the disk's.
	for cache := 1; cache <= 3; cache++ {
		must(t, meta.Format(newDisk(t, geom.Shape(small)), g(2, 5, 16, 2, cache)))
	}
}

// P21.1: a format ends at the first command that is refused, with what refused it.
func TestFormatEnds(t *testing.T) {
	all := formatCmds(small, 1, 3, 4, 5, 6)
	for n := range len(all) + 1 {
		d := used(t, small)
		must(t, d.Stop(n))
		want := api.ErrOff
		if n == len(all) {
			want = api.OK
		}
		gives(t, "the power goes", d, func() {
			if e := meta.Format(d, small); e != want {
				t.Error(n, e)
			}
		}, all[:n]...)
	}
	d := used(t, small)
	must(t, d.Fail(1))
	first := cmd{api.CmdWrite, 0, 0, 1, api.ErrMedia}
	gives(t, "a write fails", d, func() {
		if e := meta.Format(d, small); e != api.ErrMedia {
			t.Error(e)
		}
	}, first)
	for zone := range 2 {
		for _, state := range []int{api.ZoneReadOnly, api.ZoneOffline} {
			d := used(t, small)
			must(t, d.Hurt(zone, state))
			want := []cmd{{api.CmdWrite, 0, 0, 1, api.ErrState}}
			if zone == 1 {
				want = append(slices.Clone(all[:17]), cmd{api.CmdWrite, 1, 16, 1, api.ErrState})
			}
			gives(t, "a conventional zone is hurt", d, func() {
				if e := meta.Format(d, small); e != api.ErrState {
					t.Error(e)
				}
			}, want...)
		}
	}
}

// keepSome is any of what is unsure.
func keepSome(x api.Geom, number func(int) int) ([]api.Keep, []int) {
	var keep []api.Keep
	var prefix []int
	share := number(4)
	for at := range x.Conv * x.Len {
		if number(3) < share {
			keep = append(keep, api.Keep{Sector: at, Back: number(2)})
		}
	}
	for range x.Seq {
		prefix = append(prefix, number(x.Len+1))
	}
	return keep, prefix
}

// P21.4: of a format that is cut off behind its first flush nothing is loaded, or
// the empty state; of one that is cut off ahead of it perhaps what was there, or
// what an older superblock says.
func TestFormatCrash(t *testing.T) {
	old, m, s := begun(t, small)
	l := []api.Delta{put(3, 4, 4, 1), home(1, 5), bad(6)}
	s, e := meta.After(small, s, l)
	must(t, e)
	s.Upto = 9
	_, e = m.Commit(l, s)
	must(t, e, old.Write(2*16, make([]byte, 128)), old.Flush())
	all := formatCmds(small, 1, 2)
	whole, nothing := 0, 0
	for n := range len(all) + 1 {
		for seed := range uint64(12) {
			d := old.Fork()
			must(t, d.Stop(n))
			meta.Format(d, small)
			keep, prefix := keepSome(small, numbers(seed*97+uint64(n)))
			must(t, d.Crash(keep, prefix))
			m, x, e := meta.Load(d)
			switch {
			case e == api.OK && same(x, empty(small)) && m.Super().Generation == 1 && n >= len(all)-1:
				whole++
			case e == api.ErrSuper && n < len(all):
				nothing++
			case e == api.OK && n < 3 && (same(x, s) || same(x, empty(small))):
			default:
				t.Fatalf("%d commands, crash %d: %v %d", n, seed, x, e)
			}
		}
	}
	if whole < 13 || nothing < 100 {
		t.Error(whole, nothing)
	}
}
