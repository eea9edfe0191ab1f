package mount_test

import (
	"slices"
	"testing"

	"thatch/api"
	"thatch/meta"
	"thatch/mount"
	"thatch/page"
	"thatch/super"
	"thatch/zdisk"
)

// behind is what has to be mounted of a disk: step by step, on forks of it.
type behind struct {
	state  api.State
	roles  []int
	order  []int
	waste  []int
	super  api.Super
	stands []api.Stood
}

// reckoned is what is to be found of a disk, as the chapter says it.
func reckoned(t *testing.T, d *zdisk.Disk) behind {
	t.Helper()
	d = d.Fork()
	m, state, e := meta.Load(d)
	must(t, e)
	x := m.Super().Geom
	var b behind
	var zones []api.Zone
	for i := range x.Seq {
		z, e := d.Zone(x.Conv + i)
		must(t, e)
		zones = append(zones, z)
		if state.Bad[i] || slices.Contains(state.Homes, z.Number) || z.State == api.ZoneOffline {
			continue
		}
		l, e := mount.Scan(d, z.Number)
		must(t, e)
		b.stands = append(b.stands, l...)
	}
	b.state = rolled(x, state, b.stands)
	b.roles, b.order, b.waste = roles(x, state, zones, b.stands)
	for i, role := range b.roles {
		b.state.Bad[i] = role == api.RoleBad
	}
	b.super, e = super.Next(m.Super(), 1-m.Super().Slot, m.Super().Epoch+1, 0, false)
	must(t, e)
	return b
}

// wantOpen wants that a disk is mounted as it is reckoned, and that the commands
// are but reads, the waste zones' resets, and a checkpoint.
func wantOpen(t *testing.T, what string, d *zdisk.Disk) *mount.Mounted {
	t.Helper()
	want := reckoned(t, d)
	from := len(slices.Collect(d.Cmds()))
	m, e := mount.Open(d)
	if e != api.OK {
		t.Errorf("%s: %d", what, e)
		return nil
	}
	want.super.First = m.Meta.Super().First
	if m.Meta.Super() != want.super || m.Meta.Dead() || !same(m.State, want.state) {
		t.Errorf("%s: %v %v, not %v", what, m.Meta.Super(), m.State, want)
	}
	if !slices.Equal(m.Pool.Roles(), want.roles) || !slices.Equal(m.Cache.Order(), want.order) || m.Cache.Last() != want.state.Upto || m.Cache.Active() != -1 {
		t.Errorf("%s: %v %v %d, not %v", what, m.Pool.Roles(), m.Cache.Order(), m.Cache.Last(), want)
	}
	if _, s, e := meta.Load(d.Fork()); e != api.OK || !same(s, want.state) {
		t.Errorf("%s: %v lasts, %d", what, s, e)
	}
	wantCmds(t, what, m.Meta.Super(), slices.Collect(d.Cmds())[from:], want)
	return m
}

// wantCmds wants that these are the commands of a mount.
func wantCmds(t *testing.T, what string, b api.Super, l []api.Cmd, want behind) {
	t.Helper()
	x := b.Geom
	var got, all []api.Cmd
	for _, c := range l {
		if c.Kind != api.CmdRead {
			got = append(got, api.Cmd{Kind: c.Kind, Zone: c.Zone, At: c.At, N: c.N, Code: c.Code})
		} else if len(got) > 0 || c.N != 1 {
			t.Errorf("%s: %v is read", what, c)
		}
	}
	for _, zone := range want.waste {
		all = append(all, api.Cmd{Kind: api.CmdReset, Zone: zone})
	}
	write := func(at int) {
		all = append(all, api.Cmd{Kind: api.CmdWrite, Zone: at / x.Len, At: at, N: 1})
	}
	for i := range page.Pages(x, len(want.state.Extents)) {
		write(2 + b.Slot*((x.Conv*x.Len-2)/4) + i)
	}
	flush := api.Cmd{Kind: api.CmdFlush, Zone: -1}
	all = append(all, flush)
	write(b.Generation % 2)
	if all = append(all, flush); !slices.Equal(got, all) {
		t.Errorf("%s: commands %v, not %v", what, got, all)
	}
}

// someDisk is a disk of a geometry on which stands what may be there behind
// crashes, and what may not; some zones are hurt.
func someDisk(t *testing.T, x api.Geom, seed uint64) *zdisk.Disk {
	number := numbers(seed)
	state := someState(x, number)
	d := held(t, x, state)
	for i := range x.Seq {
		zone := x.Conv + i
		left := x.Len
		for range number(4) {
			b := sectors(t, x, someBatch(x, 1+number(30), number))
			if n := len(b) / 128; n <= left {
				lay(t, d, zone, b)
				left -= n
			}
		}
		if left > 0 && number(3) == 0 {
			lay(t, d, zone, some(1+number(left), int(seed)))
		}
		if number(5) == 0 {
			must(t, d.Finish(zone))
		}
		if z, _ := d.Zone(zone); z.Written > 0 && number(8) == 0 {
			must(t, d.Spoil(z.Start+number(z.Written)))
		}
		if number(9) == 0 {
			must(t, d.Hurt(zone, api.ZoneReadOnly+number(2)))
		}
	}
	return d
}

// P22.3: any disks: they are mounted as it is reckoned, or there are too many
// zones of the cache, or too many extents.
func TestOpen(t *testing.T) {
	mounted, crowd := 0, 0
	for seed := range uint64(900) {
		x := []api.Geom{wide, small, g(2, 9, 12, 2, 7), g(3, 9, 10, 2, 6)}[seed%4]
		d := someDisk(t, x, seed)
		want := reckoned(t, d)
		cached := 0
		for _, role := range want.roles {
			if role == api.RoleSealed {
				cached++
			}
		}
		if cached > x.Cache || !page.May(x, want.state) {
			if m, e := mount.Open(d); m != nil || e != api.ErrMeta {
				t.Errorf("%d: %d cached: %d", seed, cached, e)
			}
			crowd++
			continue
		}
		mounted++
		m := wantOpen(t, "any", d)
		if t.Failed() {
			t.Fatal(seed)
		}
		// Once more: nothing is waste any more, and nothing is newer.
		n := wantOpen(t, "once more", d)
		if !sameMap(n.State, m.State) || n.State.Upto != m.State.Upto {
			t.Fatal(seed, n.State, m.State)
		}
	}
	if mounted < 200 || crowd < 50 {
		t.Error(mounted, crowd)
	}
}

// The chapter's example.
func TestExample(t *testing.T) {
	state := empty(small)
	state.Upto = 4
	d := held(t, small, state)
	lay(t, d, 3, sectors(t, small, data(5, s(7, 2))), sectors(t, small, holes(6, s(8, 3))))
	m := open(t, d)
	state.Upto, state.Extents = 6, []api.Extent{extent(7, 1, 3, 1), extent(8, 3, 255, 0)}
	if !same(m.State, state) || m.Pool.Role(3) != api.RoleSealed || !slices.Equal(m.Cache.Order(), []int{3}) || m.Cache.Last() != 6 {
		t.Error(m.State, m.Pool.Roles(), m.Cache.Order())
	}
}

// P22.3: what a zone is for is told by the state ahead of rolling: one of which a
// newer batch leaves nothing is sealed, and not emptied.
func TestOpenAhead(t *testing.T) {
	state := empty(small)
	state.Upto = 4
	state.Extents = []api.Extent{extent(0, 2, 2, 1)}
	d := held(t, small, state)
	lay(t, d, 2, sectors(t, small, data(4, s(0, 2))))
	lay(t, d, 5, sectors(t, small, data(5, s(0, 2))))
	lay(t, d, 6, sectors(t, small, holes(3, s(0, 2))))
	m := wantOpen(t, "ahead", d)
	if !slices.Equal(m.Pool.Roles(), []int{3, 0, 0, 3, 0, 0}) || !slices.Equal(m.State.Extents, []api.Extent{extent(0, 2, 5, 1)}) {
		t.Error(m.Pool.Roles(), m.State)
	}
	if z, _ := d.Zone(2); z.Written != 3 {
		t.Error(z)
	}
	if z, _ := d.Zone(6); z.State != api.ZoneEmpty {
		t.Error(z)
	}
	// Mounted once more nothing lies there any more.
	m = wantOpen(t, "once more", d)
	if !slices.Equal(m.Pool.Roles(), []int{0, 0, 0, 3, 0, 0}) {
		t.Error(m.Pool.Roles())
	}
}

// P22.3: homes, bad zones and offline ones are not read.
func TestOpenUnread(t *testing.T) {
	state := empty(small)
	state.Homes[0], state.Bad[1] = 2, true
	d := held(t, small, state)
	for zone := 2; zone < 6; zone++ {
		lay(t, d, zone, sectors(t, small, holes(zone, s(zone, 1))))
	}
	must(t, d.Hurt(4, api.ZoneOffline), d.Hurt(5, api.ZoneReadOnly))
	f := d.Fork()
	from := len(slices.Collect(f.Cmds()))
	open(t, f)
	for _, c := range slices.Collect(f.Cmds())[from:] {
		if c.Kind == api.CmdRead && c.Zone >= 2 && c.Zone < 5 {
			t.Error("read", c)
		}
	}
	m := wantOpen(t, "some are not read", d)
	if !slices.Equal(m.State.Extents, []api.Extent{extent(5, 1, 255, 0)}) || !slices.Equal(m.Pool.Roles(), []int{1, 5, 5, 3, 0, 0}) || !slices.Equal(m.State.Bad, []bool{false, true, true, false, false, false}) {
		t.Error(m.State, m.Pool.Roles())
	}
}

// P22.3: what Load refuses.
func TestOpenRefused(t *testing.T) {
	refused := func(d *zdisk.Disk, want api.Errno) {
		t.Helper()
		if m, e := mount.Open(d); m != nil || e != want {
			t.Errorf("%d, not %d", e, want)
		}
	}
	refused(nil, api.ErrGeom)
	d := formatted(t, small)
	blank, e := zdisk.New(d.Shape())
	must(t, e)
	refused(blank, api.ErrSuper)
	other := d.Fork()
	must(t, other.Write(2, some(1, 1)))
	refused(other, api.ErrMeta)
	other = d.Fork()
	must(t, other.Spoil(12))
	refused(other, api.ErrMedia)
	must(t, d.Stop(0))
	refused(d, api.ErrOff)
}

// P22.3: a state that was rolled, and has too many extents: nothing is written.
func TestOpenCrowded(t *testing.T) {
	d := formatted(t, crowded)
	for i := range 14 {
		lay(t, d, 2+i/7, sectors(t, crowded, holes(1+i, s(2*i, 1))))
	}
	lay(t, d, 9, some(1, 0))
	from := len(slices.Collect(d.Cmds()))
	if m, e := mount.Open(d); m != nil || e != api.ErrMeta {
		t.Error(e)
	}
	for _, c := range slices.Collect(d.Cmds())[from:] {
		if c.Kind != api.CmdRead {
			t.Error(c)
		}
	}
	// One fewer, and it may be.
	d = formatted(t, crowded)
	for i := range 13 {
		lay(t, d, 2+i/7, sectors(t, crowded, holes(1+i, s(2*i, 1))))
	}
	wantOpen(t, "as many as may be", d)
}

// P22.3: a state that is loaded with too many extents, of which batches leave few
// enough, is mounted.
func TestOpenCrowdedAhead(t *testing.T) {
	d := formatted(t, crowded)
	m, state, e := meta.Load(d)
	must(t, e, m.Checkpoint(state, false))
	var l []api.Delta
	for i := range 14 {
		l = append(l, api.Delta{Kind: api.DeltaHole, At: 2 * i, N: 1})
	}
	_, e = m.Commit(l, state)
	must(t, e)
	f := d.Fork()
	if n, e := mount.Open(f); n != nil || e != api.ErrMeta {
		t.Error(e)
	}
	lay(t, d, 4, sectors(t, crowded, holes(1, s(1, 1))))
	wantOpen(t, "a gap is closed", d)
}

// P22.3: roles that are no pool: the waste zones are emptied, and the checkpoint
// is made all the same.
func TestOpenNoPool(t *testing.T) {
	d := formatted(t, small)
	for i := range 3 {
		lay(t, d, 2+i, sectors(t, small, holes(1+i, s(2*i, 1))))
	}
	lay(t, d, 7, some(1, 0))
	must(t, d.Hurt(6, api.ZoneReadOnly))
	want := reckoned(t, d)
	from := len(slices.Collect(d.Cmds()))
	if m, e := mount.Open(d); m != nil || e != api.ErrMeta {
		t.Error(e)
	}
	m, s, e := meta.Load(d.Fork())
	if e != api.OK || !same(s, want.state) || !s.Bad[4] {
		t.Error(s, e)
	}
	wantCmds(t, "no pool", m.Super(), slices.Collect(d.Cmds())[from:], want)
	// Mounted once more the batches are none that the state does not have.
	n := wantOpen(t, "once more", d)
	if !slices.Equal(n.Pool.Roles(), []int{0, 0, 0, 0, 5, 0}) {
		t.Error(n.Pool.Roles())
	}
}

// P22.3: a checkpoint behind which there is no generation, or no epoch.
func TestOpenLast(t *testing.T) {
	for _, b := range []api.Super{{Generation: 1 << 40, Geom: small, Epoch: 1}, {Generation: 2, Geom: small, Epoch: 1 << 31}} {
		d := formatted(t, small)
		sector, e := super.Encode(b)
		must(t, e, d.Write(0, sector))
		pages, e := page.Encode(small, b.Generation, empty(small))
		must(t, e, d.Write(2, pages[0]))
		lay(t, d, 3, some(2, 0))
		lay(t, d, 5, some(2, 0))
		// The power may go ahead of that: that is told first.
		for n, want := range []api.Errno{api.ErrOff, api.ErrOff, api.ErrMeta} {
			f := d.Fork()
			must(t, f.Stop(n))
			if m, e := mount.Open(f); m != nil || e != want {
				t.Error(b, n, e)
			}
		}
		if m, e := mount.Open(d); m != nil || e != api.ErrMeta {
			t.Error(b, e)
		}
	}
}

// P22.3: where the power goes in the course of it: ErrOff, behind so many
// commands; where it goes at the end it is mounted.
func TestOpenOff(t *testing.T) {
	made := formatted(t, small)
	lay(t, made, 3, some(2, 0))
	lay(t, made, 5, sectors(t, small, holes(2, s(0, 1))))
	lay(t, made, 6, some(2, 0))
	// Two resets, a page, a flush, the superblock, a flush.
	for n := range 7 {
		d := made.Fork()
		must(t, d.Stop(n))
		m, e := mount.Open(d)
		if n == 6 {
			if e != api.OK || m.Meta.Dead() || !d.Off() {
				t.Error(n, e)
			}
			continue
		}
		if m != nil || e != api.ErrOff {
			t.Error(n, e)
		}
	}
}

// P22.3: where another fault refuses the checkpoint it is mounted all the same,
// with a dead meta.
func TestOpenDead(t *testing.T) {
	made := formatted(t, small)
	lay(t, made, 3, some(2, 0))
	lay(t, made, 5, sectors(t, small, data(2, s(4, 3))))
	must(t, made.Flush(), made.Hurt(7, api.ZoneReadOnly))
	want := reckoned(t, made)
	hurt := func(what string, d *zdisk.Disk) {
		t.Helper()
		m, e := mount.Open(d)
		if e != api.OK || !m.Meta.Dead() || m.Meta.Super().Generation != 1 {
			t.Errorf("%s: %d", what, e)
			return
		}
		if !same(m.State, want.state) || !slices.Equal(m.Pool.Roles(), want.roles) || !slices.Equal(m.Cache.Order(), want.order) || m.Cache.Last() != 2 {
			t.Errorf("%s: %v %v", what, m.State, m.Pool.Roles())
		}
		// The waste zone is emptied all the same; what lasts is what lasted.
		if z, _ := d.Zone(3); z.State != api.ZoneEmpty {
			t.Errorf("%s: %v", what, z)
		}
		must(t, d.Crash(nil, nil))
		if _, s, e := meta.Load(d); e != api.OK || !same(s, empty(small)) {
			t.Errorf("%s: %v %d", what, s, e)
		}
	}
	d := made.Fork()
	must(t, d.Fail(1))
	hurt("a page", d)
	d = made.Fork()
	must(t, d.Hurt(0, api.ZoneReadOnly))
	hurt("a conventional zone", d)
}

// R3: what is mounted shares nothing with what another mount tells.
func TestOpenShared(t *testing.T) {
	state := empty(small)
	state.Extents = []api.Extent{extent(0, 2, 2, 1)}
	d := held(t, small, state)
	m := open(t, d)
	roles, order := m.Pool.Roles(), m.Cache.Order()
	clear(m.State.Bad[:cap(m.State.Bad)])
	clear(m.State.Homes[:cap(m.State.Homes)])
	clear(m.State.Extents[:cap(m.State.Extents)])
	if !slices.Equal(m.Pool.Roles(), roles) || !slices.Equal(m.Cache.Order(), order) {
		t.Error("shared")
	}
	wantOpen(t, "once more", d)
	l, e := mount.Scan(d, 2)
	must(t, e)
	if len(l) > 0 {
		t.Error(l)
	}
}
