package mcache_test

import (
	"math"
	"slices"
	"testing"

	"thatch/api"
	"thatch/geom"
	"thatch/mcache"
	"thatch/pool"
	"thatch/zdisk"
)

const (
	free   = api.RoleFree
	home   = api.RoleHome
	active = api.RoleActive
	sealed = api.RoleSealed
	spare  = api.RoleSpare
	bad    = api.RoleBad
)

func newDisk(t *testing.T, x api.Shape) *zdisk.Disk {
	t.Helper()
	d, e := zdisk.New(x)
	must(t, e)
	return d
}

func load(t *testing.T, g api.Geom, roles ...int) *pool.Pool {
	t.Helper()
	p, e := pool.Load(g, roles)
	must(t, e)
	return p
}

// P17.1: caches that may be, of zones that are sealed in any order.
func TestNew(t *testing.T) {
	for _, c := range []struct {
		roles []int
		last  int
		order []int
	}{
		{[]int{free, free, free, free, free}, 0, nil},
		{[]int{free, free, free, free, free}, top, []int{}},
		{[]int{sealed, free, free, free, free}, 5, []int{2}},
		{[]int{free, sealed, free, free, sealed}, 5, []int{3, 6}},
		{[]int{free, sealed, free, free, sealed}, 5, []int{6, 3}},
		{[]int{home, bad, spare, sealed, home}, 1, []int{5}},
		{[]int{bad, bad, bad, bad, bad}, 1, nil},
	} {
		d := newDisk(t, geom.Shape(small))
		p := load(t, small, c.roles...)
		x, e := mcache.New(d, small, p, c.last, c.order)
		must(t, e)
		k := &kit{t, small, d, p, x}
		k.is(c.last, -1, c.order...)
		k.roles(c.roles...)
		k.gives(func() {})
	}
}

// P17.1: caches that may not be.
func TestNewRefused(t *testing.T) {
	d := newDisk(t, geom.Shape(small))
	plain := []int{free, sealed, free, free, sealed}
	try := func(d *zdisk.Disk, g api.Geom, p *pool.Pool, last int, order []int, want api.Errno) {
		t.Helper()
		if c, e := mcache.New(d, g, p, last, order); c != nil || e != want {
			t.Errorf("%v %d %v: %d, not %d", g, last, order, e, want)
		}
	}
	for _, last := range []int{0, -1} {
		try(nil, small, load(t, small, plain...), last, []int{3, 6}, api.ErrGeom)
		try(d, small, nil, last, []int{3, 6}, api.ErrGeom)
		try(d, small, nil, last, nil, api.ErrGeom)
		for _, g := range []api.Geom{{}, {Conv: 1, Seq: 5, Len: 12, Limit: 2, Cache: 2}, {Conv: 2, Seq: 5, Len: 12, Limit: 2, Cache: 4}, {Conv: 2, Seq: 5, Len: 12, Limit: 2}, {Conv: math.MinInt, Seq: math.MaxInt}} {
			try(d, g, load(t, small, plain...), last, []int{3, 6}, api.ErrGeom)
			try(nil, g, load(t, small, plain...), last, []int{3, 6}, api.ErrGeom)
		}
		for _, x := range []api.Shape{{Conv: 3, Seq: 5, Len: 12, Limit: 2}, {Conv: 2, Seq: 6, Len: 12, Limit: 2}, {Conv: 2, Seq: 5, Len: 13, Limit: 2}, {Conv: 2, Seq: 5, Len: 12, Limit: 3}} {
			try(newDisk(t, x), small, load(t, small, plain...), last, []int{3, 6}, api.ErrGeom)
		}
	}
	for _, last := range []int{math.MinInt, -1, top + 1, math.MaxInt} {
		try(d, small, load(t, small, plain...), last, []int{3, 6}, api.ErrArg)
	}
	for _, order := range [][]int{nil, {}, {3}, {6}, {3, 3}, {6, 6}, {3, 6, 3}, {3, 6, 6}, {3, 6, 2}, {3, 5}, {2, 4}, {3, 6, -1}, {3, -6}, {1, 4}, {3, 6, math.MaxInt}, {math.MinInt, 3, 6}} {
		try(d, small, load(t, small, plain...), 5, order, api.ErrArg)
	}
	try(d, small, load(t, small, free, free, free, free, free), 5, []int{2}, api.ErrArg)
	try(d, small, load(t, small, active, free, free, free, free), 5, nil, api.ErrArg)
	try(d, small, load(t, small, active, free, free, free, free), 5, []int{2}, api.ErrArg)
	try(d, small, load(t, small, active, sealed, free, free, free), 5, []int{3}, api.ErrArg)
	if n := len((&kit{t: t, geom: small, disk: d}).given()); n > 0 {
		t.Errorf("%d commands", n)
	}
}

// P17.1, the chapter's example.
func TestExample(t *testing.T) {
	// A device of as many sectors as the example needs.
	k := newKit(t, api.Geom{Conv: 2, Seq: 6, Len: 16, Limit: 3, Cache: 1}, 0)
	k.write(5, 8, api.OK, put(5, 8, 2, 1))
	k.write(5, 8, api.ErrBusy)
	k.is(1, -1, 2)
	k.roles(sealed, free, free, free, free, free)
}

// P17.1: what is written stands in its zone; zones are changed where too little
// is left, and no earlier.
func TestWrite(t *testing.T) {
	k := newKit(t, small, 100)
	k.gives(func() { k.write(3, 4, api.OK, put(3, 4, 2, 1)) }, cmd{kind: api.CmdWrite, zone: 2, at: 0, n: 5})
	k.is(101, 2)
	k.roles(active, free, free, free, free)
	k.gives(func() { k.write(0, 1, api.OK, put(0, 1, 2, 6)) }, cmd{kind: api.CmdWrite, zone: 2, at: 5, n: 2})
	k.gives(func() { k.write(18, 4, api.OK, put(18, 4, 2, 8)) }, cmd{kind: api.CmdWrite, zone: 2, at: 7, n: 5})
	// The zone is full, but active till room is asked for.
	k.is(103, 2)
	k.roles(active, free, free, free, free)
	k.standsJust(2, sectors(t, small, dataBatch(101, s(3, 4)), some(4, 3)), sectors(t, small, dataBatch(102, s(0, 1)), some(1, 0)), sectors(t, small, dataBatch(103, s(18, 4)), some(4, 18)))
	k.gives(func() { k.write(14, 8, api.OK, put(14, 8, 3, 1)) },
		cmd{kind: api.CmdFinish, zone: 2}, cmd{kind: api.CmdWrite, zone: 3, at: 0, n: 9})
	k.is(104, 3, 2)
	k.roles(sealed, active, free, free, free)
	// Three are left: one too few.
	k.gives(func() { k.write(0, 3, api.ErrBusy) }, cmd{kind: api.CmdFinish, zone: 3})
	k.is(104, -1, 2, 3)
	k.roles(sealed, sealed, free, free, free)
	k.gives(func() { k.write(0, 1, api.ErrBusy) })
	k.is(104, -1, 2, 3)
	k.standsJust(3, sectors(t, small, dataBatch(104, s(14, 8)), some(8, 14)))
	for _, zone := range []int{4, 5, 6} {
		k.standsJust(zone)
	}
}

// P17.1: just as many as are left go into the zone.
func TestWriteLast(t *testing.T) {
	for n := 1; n <= 8; n++ {
		for _, more := range []int{0, 1} {
			k := newKit(t, small, 0)
			// So many are written that n and its head are left, or one too few.
			for range 11 - n + more {
				k.trim([]api.Span{s(0, 1)}, api.OK, hole(0, 1))
			}
			last := 11 - n + more
			if more == 0 {
				k.write(2, n, api.OK, put(2, n, 2, 12-n))
				k.is(last+1, 2)
			} else {
				k.write(2, n, api.OK, put(2, n, 3, 1))
				k.is(last+1, 3, 2)
			}
		}
	}
}

// P17.1: what is refused by its name, in the order in which it is named, changes
// nothing, and gives no command.
func TestWriteRefused(t *testing.T) {
	for _, began := range []bool{false, true} {
		k := newKit(t, small, 7)
		last, zone := 7, -1
		if began {
			k.write(0, 2, api.OK, put(0, 2, 2, 1))
			last, zone = 8, 2
		}
		was := k.pool.Roles()
		for _, x := range []api.Span{s(0, 0), s(0, -1), s(-1, 1), s(-1, 3), s(22, 1), s(21, 2), s(0, 23), s(0, 9), s(13, 9), s(5, 17), s(0, 22), s(math.MaxInt, 1), s(0, math.MaxInt), s(math.MinInt, math.MinInt), s(math.MaxInt, math.MaxInt), {}} {
			for _, n := range []int{0, 1, 8, 9, 22} {
				k.gives(func() {
					if l, e := k.cache.Write(x, some(n, 0)); len(l) > 0 || e != api.ErrRange {
						t.Errorf("%v: %v %d", x, l, e)
					}
				})
			}
		}
		for _, n := range []int{0, 1, 127, 128, 255, 257, 2*128 - 1, 3 * 128, 22 * 128} {
			k.gives(func() {
				if l, e := k.cache.Write(s(3, 2), some(22, 0)[:n]); len(l) > 0 || e != api.ErrArg {
					t.Errorf("%d bytes: %v %d", n, l, e)
				}
			})
		}
		k.is(last, zone)
		k.roles(was...)
	}
	k := newKit(t, narrow, 0)
	k.write(0, 7, api.ErrRange)
	k.write(8, 6, api.OK, put(8, 6, 2, 1))
}

// P17.1: the greatest number, and the one behind it.
func TestLastNumbers(t *testing.T) {
	k := newKit(t, small, top-1)
	k.write(0, 1, api.OK, put(0, 1, 2, 1))
	k.is(top, 2)
	k.gives(func() {
		k.write(0, 1, api.ErrArg)
		k.write(22, 1, api.ErrRange)
		k.trim([]api.Span{s(0, 1)}, api.ErrArg)
		k.trim([]api.Span{s(22, 1)}, api.ErrRange)
		k.trim(nil, api.OK)
	})
	k.is(top, 2)
	// Two batches, of which the second one would have no number: not even the
	// first is appended.
	k = newKit(t, small, top-1)
	k.gives(func() { k.trim([]api.Span{s(0, 1), s(0, 1)}, api.ErrArg) })
	k.is(top-1, -1)
	k.roles(free, free, free, free, free)
	k.trim([]api.Span{s(0, 1), s(5, 1)}, api.OK, hole(0, 1), hole(5, 1))
	k.is(top, 2)
}

// P17.2: Trim puts all into as few batches as can be.
func TestTrim(t *testing.T) {
	k := newKit(t, small, 50)
	k.gives(func() { k.trim([]api.Span{s(0, 22)}, api.OK, hole(0, 22)) }, cmd{kind: api.CmdWrite, zone: 2, at: 0, n: 1})
	k.is(51, 2)
	var l []api.Span
	var deltas []api.Delta
	for i := range 11 {
		l = append(l, s(2*i, 1))
		deltas = append(deltas, hole(2*i, 1))
	}
	k.gives(func() { k.trim(l, api.OK, deltas...) }, cmd{kind: api.CmdWrite, zone: 2, at: 1, n: 1}, cmd{kind: api.CmdWrite, zone: 2, at: 2, n: 1})
	k.is(53, 2)
	k.gives(func() { k.trim([]api.Span{s(0, 2), s(1, 2)}, api.OK, hole(0, 2), hole(1, 2)) }, cmd{kind: api.CmdWrite, zone: 2, at: 3, n: 1}, cmd{kind: api.CmdWrite, zone: 2, at: 4, n: 1})
	k.is(55, 2)
	k.standsJust(2,
		sectors(t, small, holeBatch(51, s(0, 22)), nil),
		sectors(t, small, holeBatch(52, l[:8]...), nil), sectors(t, small, holeBatch(53, l[8:]...), nil),
		sectors(t, small, holeBatch(54, s(0, 2)), nil), sectors(t, small, holeBatch(55, s(1, 2)), nil))
	k.gives(func() {
		k.trim(nil, api.OK)
		k.trim([]api.Span{}, api.OK)
		for _, x := range []api.Span{s(0, 0), s(22, 1), s(0, 23), s(-1, 1), s(0, -1), s(math.MaxInt, math.MaxInt)} {
			k.trim([]api.Span{x}, api.ErrRange)
			k.trim([]api.Span{s(0, 1), x}, api.ErrRange)
			k.trim([]api.Span{s(0, 1), s(0, 1), x, s(1, 1)}, api.ErrRange)
		}
	})
	k.is(55, 2)
}

// P17.2: batches of one Trim go over from one zone to the next; those ahead of
// one that has no room stay, and are counted.
func TestTrimBusy(t *testing.T) {
	k := newKit(t, small, 0)
	l := slices.Repeat([]api.Span{s(4, 1)}, 15)
	k.trim(l, api.OK, slices.Repeat([]api.Delta{hole(4, 1)}, 15)...)
	k.is(15, 3, 2)
	k.trim(l, api.ErrBusy)
	k.is(24, -1, 2, 3)
	k.trim(l[:1], api.ErrBusy)
	k.is(24, -1, 2, 3)
	if n := len(k.batches()); n != 24 {
		t.Errorf("%d batches", n)
	}
}

// P17.2: PutBy seals the active zone, if there is one.
func TestPutBy(t *testing.T) {
	k := newKit(t, small, 0)
	k.gives(func() {
		if k.cache.PutBy() {
			t.Error("there is none")
		}
	})
	k.is(0, -1)
	k.write(0, 2, api.OK, put(0, 2, 2, 1))
	k.gives(func() {
		if !k.cache.PutBy() {
			t.Error("there is one")
		}
	}, cmd{kind: api.CmdFinish, zone: 2})
	k.is(1, -1, 2)
	k.roles(sealed, free, free, free, free)
	k.gives(func() {
		if k.cache.PutBy() {
			t.Error("there is none any more")
		}
	})
	k.is(1, -1, 2)
	if z, e := k.disk.Zone(2); e != api.OK || z.State != api.ZoneFull || z.Written != 3 {
		t.Error(z, e)
	}
	k.write(9, 2, api.OK, put(9, 2, 3, 1))
	k.is(2, 3, 2)
	// Where the disk refuses it the zone is put by all the same.
	must(t, k.disk.Hurt(3, api.ZoneOffline))
	k.gives(func() {
		if !k.cache.PutBy() {
			t.Error("there is one")
		}
	}, cmd{kind: api.CmdFinish, zone: 3, code: api.ErrState})
	k.is(2, -1, 2, 3)
	k.roles(sealed, sealed, free, free, free)
}

// P17.2: Free empties sealed zones alone, in any order.
func TestFree(t *testing.T) {
	k := newKit(t, wide, 0)
	for zone := 3; zone <= 7; zone++ {
		k.write(0, 8, api.OK, put(0, 8, zone, 1))
	}
	k.is(5, 7, 3, 4, 5, 6)
	refused := func(l ...int) {
		t.Helper()
		for _, zone := range l {
			k.gives(func() {
				if e := k.cache.Free(zone); e != api.ErrRole {
					t.Errorf("%d: %d", zone, e)
				}
			})
		}
	}
	refused(math.MinInt, -1, 0, 1, 2, 7, 8, 11, 12, api.NoZone, math.MaxInt)
	k.is(5, 7, 3, 4, 5, 6)
	k.gives(func() { must(t, k.cache.Free(5)) }, cmd{kind: api.CmdReset, zone: 5})
	k.is(5, 7, 3, 4, 6)
	k.roles(sealed, sealed, free, sealed, active, free, free, free, free)
	k.standsJust(5)
	refused(5)
	k.gives(func() { must(t, k.cache.Free(6), k.cache.Free(3)) }, cmd{kind: api.CmdReset, zone: 6}, cmd{kind: api.CmdReset, zone: 3})
	k.is(5, 7, 4)
	// One that can not be emptied is bad, and gone from the order.
	must(t, k.disk.Hurt(4, api.ZoneReadOnly))
	k.gives(func() {
		if e := k.cache.Free(4); e != api.ErrState {
			t.Error(e)
		}
	}, cmd{kind: api.CmdReset, zone: 4, code: api.ErrState})
	k.is(5, 7)
	k.roles(free, bad, free, free, active, free, free, free, free)
	refused(4, 3)
	// The freed one is written to again.
	k.write(0, 8, api.OK, put(0, 8, 3, 1))
	k.is(6, 3, 7)
}

// P17.2: a zone of which nothing is written is freed without a command; without
// the power none can be emptied, and it is bad.
func TestFreeEmpty(t *testing.T) {
	k := newKit(t, small, 0)
	must(t, k.disk.Fail(1))
	k.write(0, 2, api.OK, put(0, 2, 3, 1))
	k.is(1, 3, 2)
	k.gives(func() { must(t, k.cache.Free(2)) })
	k.is(1, 3)
	k.roles(free, active, free, free, free)
	k.cache.PutBy()
	must(t, k.disk.Stop(0))
	if e := k.cache.Free(3); e != api.ErrOff {
		t.Error(e)
	}
	k.is(1, -1)
	k.roles(free, bad, free, free, free)
}

// P17.1, P17.2: a nil Cache.
func TestNil(t *testing.T) {
	var c *mcache.Cache
	for _, x := range []api.Span{s(0, 1), s(-1, 0)} {
		if l, e := c.Write(x, some(1, 0)); len(l) > 0 || e != api.ErrClosed {
			t.Error(l, e)
		}
		if l, e := c.Trim([]api.Span{x}); len(l) > 0 || e != api.ErrClosed {
			t.Error(l, e)
		}
	}
	if l, e := c.Trim(nil); len(l) > 0 || e != api.ErrClosed {
		t.Error(l, e)
	}
	for _, zone := range []int{-1, 2, 3} {
		if e := c.Free(zone); e != api.ErrClosed {
			t.Error(e)
		}
	}
	if c.PutBy() || c.Fits(nil) || c.Fits([]int{1}) || c.Last() != 0 || c.Active() != -1 || len(c.Order()) > 0 {
		t.Error("something")
	}
}

// R3: what is handed in is neither changed nor kept; each answer is new.
func TestNothingShared(t *testing.T) {
	d := newDisk(t, geom.Shape(small))
	p := load(t, small, sealed, free, free, free, free)
	order := []int{2, 99}
	c, e := mcache.New(d, small, p, 0, order[:1])
	must(t, e)
	order[0] = 7
	k := &kit{t, small, d, p, c}
	k.is(0, -1, 2)
	for range 2 {
		l := c.Order()
		clear(l[:cap(l)])
		k.is(0, -1, 2)
	}
	data := some(3, 0)
	l, e := c.Write(s(4, 2), data[:256])
	must(t, e)
	if !slices.Equal(data, some(3, 0)) || !slices.Equal(l, []api.Delta{put(4, 2, 3, 1)}) {
		t.Error("what was handed in is changed", l)
	}
	clear(data)
	clear(l[:cap(l)])
	spans := []api.Span{s(0, 1), s(5, 2), s(7, 7)}
	l, e = c.Trim(spans[:2])
	must(t, e)
	if spans[2] != s(7, 7) || !slices.Equal(l, []api.Delta{hole(0, 1), hole(5, 2)}) {
		t.Error("what was handed in is changed", l)
	}
	clear(l[:cap(l)])
	clear(spans)
	sizes := []int{3, 12}
	c.Fits(sizes[:1])
	if !slices.Equal(sizes, []int{3, 12}) {
		t.Error("sizes are changed")
	}
	k.standsJust(3, sectors(t, small, dataBatch(1, s(4, 2)), some(3, 0)[:256]), sectors(t, small, holeBatch(2, s(0, 1), s(5, 2)), nil))
	k.is(2, 3, 2)
}
