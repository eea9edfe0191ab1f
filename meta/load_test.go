package meta_test

import (
	"slices"
	"testing"

	"thatch/api"
	"thatch/geom"
	"thatch/meta"
	"thatch/super"
	"thatch/zdisk"
)

// crowded has more logical sectors, 126, than extents, 13; its ring has 8
// sectors, its 18 bands 7.
var crowded = g(2, 20, 8, 2, 1)

// holder is a superblock of a geometry: generation 6, so that it stands in sector
// 0, slot 1, epoch 4, and record 37 is the first one.
func holder(x api.Geom) api.Super {
	return api.Super{Generation: 6, Geom: x, Slot: 1, Epoch: 4, First: 37}
}

// busy is a state of small that has something of everything.
func busy() api.State {
	s := empty(small)
	s.Upto, s.Homes[1], s.Bad[2] = 70, 5, true
	s.Extents = []api.Extent{extent(3, 4, 2, 1), extent(10, 2, 255, 0)}
	return s
}

// held is the conventional sectors of a disk on which a superblock holds.
func held(t *testing.T, b api.Super, s api.State) [][]byte {
	t.Helper()
	l := blanks(b.Geom)
	lay(t, l, b, s)
	return l
}

// wantLoad wants that what lasts is loaded; the record behind what was found is
// told by the next checkpoint.
func wantLoad(t *testing.T, what string, d *zdisk.Disk, b api.Super, s api.State, next int) *meta.Meta {
	t.Helper()
	m, got, e := meta.Load(d)
	if e != api.OK {
		t.Errorf("%s: %d", what, e)
		return nil
	}
	if !same(got, s) || m.Super() != b || m.Room() != 0 || m.Dead() {
		t.Errorf("%s: %v of %v, not %v of %v", what, got, m.Super(), s, b)
	}
	f, _, _ := meta.Load(d.Fork())
	if e := f.Checkpoint(empty(b.Geom), false); e != api.OK || f.Super().First != next {
		t.Errorf("%s: %d, %v, not %d", what, e, f.Super(), next)
	}
	return m
}

func wantRefused(t *testing.T, what string, d *zdisk.Disk, want api.Errno) {
	t.Helper()
	if m, s, e := meta.Load(d); m != nil || !none(s) || e != want {
		t.Errorf("%s: %v %v %d, not %d", what, m, s, e, want)
	}
}

// P21.1: what is loaded where the journal says nothing.
func TestLoad(t *testing.T) {
	for _, x := range layouts {
		for _, b := range []api.Super{holder(x.g), {Generation: 7, Geom: x.g, Slot: 0, Epoch: 1, First: 0, Clean: true}, {Generation: 1 << 40, Geom: x.g, Slot: 0, Epoch: 1 << 31, First: 1<<40 - 1, Clean: true}} {
			s := empty(x.g)
			s.Upto, s.Bad[0], s.Homes[1] = 1<<40, true, x.g.Conv+1
			s.Extents = []api.Extent{extent(0, 3, x.g.Conv, 2), extent(5, 1, 255, 0)}
			d := laid(t, x.g, held(t, b, s))
			if m, got := load(t, d); !same(got, s) || m.Super() != b || m.Room() != 0 || m.Dead() {
				t.Error(b, got)
			}
		}
	}
	b := holder(small)
	wantLoad(t, "plain", laid(t, small, held(t, b, busy())), b, busy(), 37)
	// The cache is no matter of the disk's shape.
	other := holder(g(2, 5, 16, 2, 3))
	wantLoad(t, "another cache", laid(t, small, held(t, other, empty(other.Geom))), other, empty(other.Geom), 37)
	// An older superblock, and what another slot holds, do not matter.
	l := held(t, api.Super{Generation: 5, Geom: small, Slot: 0, Epoch: 3, First: 30}, empty(small))
	lay(t, l, b, busy())
	d := laid(t, small, l)
	wantLoad(t, "two", d, b, busy(), 37)
	for at := 2; at < 9; at++ {
		must(t, d.Spoil(at))
	}
	if _, s := load(t, d); !same(s, busy()) {
		t.Error(s)
	}
}

// P21.1: extents that might be joined stay as the pages have them, unless the
// journal says something, be it nothing.
func TestLoadJoined(t *testing.T) {
	s := busy()
	s.Extents = []api.Extent{extent(3, 1, 2, 1), extent(4, 3, 2, 2), extent(10, 1, 255, 0), extent(11, 1, 255, 0)}
	l := held(t, holder(small), s)
	wantLoad(t, "as it is", laid(t, small, l), holder(small), s, 37)
	layGroup(t, l, small, nil, 4, 37, 70)
	wantLoad(t, "behind a group of nothing", laid(t, small, l), holder(small), busy(), 38)
}

// P21.1: in which order what is wrong is told.
func TestLoadRefused(t *testing.T) {
	wantRefused(t, "no disk", nil, api.ErrGeom)
	hole1 := []api.Delta{hole(1, 1)}
	// Each of these does harm of one kind, and what is told of it.
	type harm struct {
		what string
		do   func(l [][]byte)
		hurt func(d *zdisk.Disk)
		code api.Errno
	}
	none := func(*zdisk.Disk) {}
	spoil := func(at int) func(d *zdisk.Disk) {
		return func(d *zdisk.Disk) { must(t, d.Spoil(at)) }
	}
	stay := func([][]byte) {}
	all := []harm{
		{"no power", stay, func(d *zdisk.Disk) { must(t, d.Stop(0)) }, api.ErrOff},
		{"sector 0", stay, spoil(0), api.ErrMedia},
		{"sector 1", stay, spoil(1), api.ErrMedia},
		{"zone 0", stay, func(d *zdisk.Disk) { must(t, d.Hurt(0, api.ZoneOffline)) }, api.ErrMedia},
		{"no superblock", func(l [][]byte) { l[0] = make([]byte, 128) }, none, api.ErrSuper},
		{"in the other's place", func(l [][]byte) { l[0], l[1] = make([]byte, 128), l[0] }, none, api.ErrSuper},
		{"another shape", func(l [][]byte) {
			lay(t, l, api.Super{Generation: 8, Geom: g(2, 5, 16, 3, 2), Slot: 1, Epoch: 4, First: 37}, empty(small))
		}, none, api.ErrGeom},
		{"the slot's first sector", stay, spoil(9), api.ErrMedia},
		{"the slot's last sector", stay, spoil(15), api.ErrMedia},
		{"another generation", func(l [][]byte) {
			lay(t, l, api.Super{Generation: 4, Geom: small, Slot: 1, Epoch: 4, First: 37}, busy())
			lay(t, l, api.Super{Generation: 6, Geom: small, Slot: 0, Epoch: 4, First: 37}, busy())
			l[0], _ = super.Encode(holder(small))
		}, none, api.ErrMeta},
		{"no page", func(l [][]byte) { l[9] = make([]byte, 128) }, none, api.ErrMeta},
		{"no second page", func(l [][]byte) { l[10] = l[9] }, none, api.ErrMeta},
		{"the ring's first sector", stay, spoil(16 + 37%16), api.ErrMedia},
		{"the sector behind a group", func(l [][]byte) { layGroup(t, l, small, hole1, 4, 37, 71) }, spoil(16 + 38%16), api.ErrMedia},
		{"no such band", func(l [][]byte) { layGroup(t, l, small, []api.Delta{home(2, 4)}, 4, 37, 71) }, none, api.ErrMeta},
	}
	for i, first := range all {
		for _, second := range all[i:] {
			if first.code == second.code && first.what != second.what {
				continue
			}
			s := busy()
			// So many extents that there is a second page.
			s.Extents = nil
			for at := range 8 {
				s.Extents = append(s.Extents, extent(2*at, 1, 2, at))
			}
			l := held(t, holder(small), s)
			second.do(l)
			first.do(l)
			d := laid(t, small, l)
			if second.what != first.what {
				second.hurt(d)
			}
			first.hurt(d)
			wantRefused(t, first.what+", "+second.what, d, first.code)
		}
	}
}

// P21.1: what is spoiled where nothing is looked for does not matter.
func TestLoadElsewhere(t *testing.T) {
	l := held(t, holder(small), busy())
	layGroup(t, l, small, []api.Delta{hole(1, 1)}, 4, 37, 71)
	want := busy()
	want.Upto, want.Extents = 71, append([]api.Extent{extent(1, 1, 255, 0)}, want.Extents...)
	d := laid(t, small, l)
	for at := range 32 {
		read := at < 2 || at >= 9 && at < 16 || at == 16+37%16 || at == 16+38%16
		f := d.Fork()
		must(t, f.Spoil(at))
		if read {
			wantRefused(t, "spoiled", f, api.ErrMedia)
		} else if _, s := load(t, f); !same(s, want) {
			t.Error(at, s)
		}
	}
	must(t, d.Hurt(0, api.ZoneReadOnly), d.Hurt(1, api.ZoneReadOnly))
	if _, s := load(t, d); !same(s, want) {
		t.Error(s)
	}
}

// P21.1: deltas that do not go behind the state.
func TestLoadMeta(t *testing.T) {
	for _, d := range []api.Delta{put(29, 2, 4, 0), put(0, 1, 1, 0), put(0, 1, 7, 0), put(0, 2, 4, 15), hole(30, 1), hole(0, 31), home(2, 4), home(0, 1), home(0, 7), home(0, 143), bad(0), bad(1), bad(7)} {
		one := held(t, holder(small), busy())
		layGroup(t, one, small, []api.Delta{d}, 4, 37, 71)
		wantRefused(t, "one", laid(t, small, one), api.ErrMeta)
		two := held(t, holder(small), busy())
		layGroup(t, two, small, []api.Delta{hole(0, 3)}, 4, 37, 71)
		layGroup(t, two, small, []api.Delta{hole(0, 3), d}, 4, 38, 72)
		wantRefused(t, "the second one", laid(t, small, two), api.ErrMeta)
	}
}

// P21.1: the state behind all groups that are found, and no further.
func TestLoadGroups(t *testing.T) {
	for seed := range uint64(120) {
		x := layouts[seed%3]
		number := numbers(seed)
		b := holder(x.g)
		b.First += number(100)
		p := newPlain(x.g)
		p.upto = number(50)
		l := held(t, b, p.state())
		next := b.First
		for range number(5) {
			var deltas []api.Delta
			for range number(20) {
				deltas = append(deltas, someDelta(x.g, number))
			}
			n := (max(len(deltas), 1) + 5) / 6
			if next+n > b.First+x.long {
				break
			}
			// The number of the last group holds, be it less than those ahead.
			p.upto = number(50)
			layGroup(t, l, x.g, deltas, 4, next, p.upto)
			next += n
			for _, d := range deltas {
				p.change(d)
			}
		}
		// What stands behind is none of it: of another epoch, or cut off.
		if next+2 <= b.First+x.long {
			at := geom.RingAt(x.g, next)
			layGroup(t, l, x.g, []api.Delta{hole(0, 5)}, 3+2*number(2), next, 99)
			if number(2) == 0 {
				layGroup(t, l, x.g, slices.Repeat([]api.Delta{hole(0, 5)}, 7), 4, next, 99)
				l[geom.RingAt(x.g, next+1)] = make([]byte, 128)
			}
			if number(2) == 0 {
				l[at] = make([]byte, 128)
			}
		}
		wantLoad(t, "groups", laid(t, x.g, l), b, p.state(), next)
	}
}

// P21.1: a state may have more extents than a slot has room for; it lasts no
// further.
func TestLoadCrowded(t *testing.T) {
	l := held(t, holder(crowded), empty(crowded))
	p := newPlain(crowded)
	p.upto = 5
	var deltas []api.Delta
	for i := range 14 {
		deltas = append(deltas, hole(3*i, 1))
		p.change(deltas[i])
	}
	layGroup(t, l, crowded, deltas, 4, 37, 5)
	m, s := load(t, laid(t, crowded, l))
	if !same(s, p.state()) || len(s.Extents) != 14 {
		t.Error(s)
	}
	if e := m.Checkpoint(s, false); e != api.ErrArg || m.Dead() {
		t.Error(e)
	}
}

// P21.1: nothing is written by a Load, and only what can be read is asked for.
func TestLoadReads(t *testing.T) {
	for _, x := range layouts {
		d := formatted(t, x.g)
		from := len(given(d))
		load(t, d)
		l := given(d)[from:]
		for _, c := range l {
			if c.kind != api.CmdRead || c.code != api.OK {
				t.Error(c)
			}
		}
		if len(l) != 2+x.slot+1 {
			t.Error(l)
		}
	}
}
