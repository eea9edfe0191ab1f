package meta_test

import (
	"slices"
	"testing"

	"thatch/api"
	"thatch/meta"
	"thatch/zdisk"
)

// broken are states of small that may not be.
func broken() []api.State {
	var l []api.State
	add := func(change func(s *api.State)) {
		s := busy()
		change(&s)
		l = append(l, s)
	}
	l = append(l, api.State{})
	add(func(s *api.State) { s.Upto = -1 })
	add(func(s *api.State) { s.Upto = 1<<40 + 1 })
	add(func(s *api.State) { s.Homes = s.Homes[:1] })
	add(func(s *api.State) { s.Homes = append(s.Homes, 255) })
	add(func(s *api.State) { s.Homes[0] = 1 })
	add(func(s *api.State) { s.Homes[0] = 7 })
	add(func(s *api.State) { s.Bad = s.Bad[:4] })
	add(func(s *api.State) { s.Bad = append(s.Bad, false) })
	add(func(s *api.State) { s.Extents[0].Zone = 7 })
	add(func(s *api.State) { s.Extents[0].N = 0 })
	add(func(s *api.State) { s.Extents[0].Off = 13 })
	add(func(s *api.State) { s.Extents[1].At = 6 })
	add(func(s *api.State) { s.Extents[1].N = 21 })
	add(func(s *api.State) { slices.Reverse(s.Extents) })
	return l
}

// many is a state of a geometry with so many extents.
func many(x api.Geom, n int) api.State {
	s := empty(x)
	for i := range n {
		s.Extents = append(s.Extents, extent(i, 1, x.Conv, i%2))
	}
	return s
}

// P21.2: which commands a checkpoint gives, and what stands behind it.
func TestCheckpoint(t *testing.T) {
	for _, x := range layouts {
		d := formatted(t, x.g)
		l := formattedSectors(t, x.g, empty(x.g))
		m, _ := load(t, d)
		for i := range 5 {
			s := many(x.g, i*3)
			s.Upto, s.Homes[1], s.Bad[0] = i, x.g.Conv+i%2, i > 2
			b := api.Super{Generation: 2 + i, Geom: x.g, Slot: (i + 1) % 2, Epoch: 2 + i, Clean: i%3 == 0}
			pages := (40 + 2*x.bands + (x.g.Seq+7)/8 + 16*i*3 + 95) / 96
			gives(t, "a checkpoint", d, func() { must(t, m.Checkpoint(s, b.Clean)) }, checkpointCmds(x.g, 2+i, b.Slot, pages)...)
			lay(t, l, b, s)
			standsJust(t, "a checkpoint", d, l)
			if m.Super() != b || m.Room() != x.long || m.Dead() || d.Unsure() > 0 {
				t.Error(m.Super(), m.Room())
			}
			wantLoad(t, "a checkpoint", d, b, s, 0)
			// Also of one that is loaded anew.
			if i%2 > 0 {
				m, _ = load(t, d)
			}
		}
	}
}

// P21.2: the first record is the one behind the last one of the ring, or behind
// what was found.
func TestCheckpointFirst(t *testing.T) {
	d, m, s := begun(t, small)
	commit := func(n int) {
		t.Helper()
		if is, e := m.Commit(slices.Repeat([]api.Delta{hole(0, 1)}, n), s); is || e != api.OK {
			t.Fatal(is, e)
		}
	}
	first := func(want int) {
		t.Helper()
		if m.Super().First != want {
			t.Error(m.Super(), want)
		}
	}
	first(0)
	commit(7)
	commit(1)
	must(t, m.Checkpoint(s, false))
	first(3)
	must(t, m.Checkpoint(s, true))
	first(3)
	commit(12)
	m, _ = load(t, d)
	first(3)
	must(t, m.Checkpoint(s, false))
	first(5)
	if m.Room() != 16 {
		t.Error(m.Room())
	}
}

// P21.2: states that may not be, of a meta with a ring and without one; nothing
// comes of them.
func TestCheckpointRefused(t *testing.T) {
	d := formatted(t, small)
	m, s := load(t, d)
	refused := func(what string, x api.State) {
		t.Helper()
		was, room := m.Super(), m.Room()
		gives(t, what, d, func() {
			if e := m.Checkpoint(x, false); e != api.ErrArg {
				t.Errorf("%s: %v: %d", what, x, e)
			}
			if is, e := m.Commit(nil, x); is || room > 0 && e != api.ErrArg || room == 0 && e != api.ErrClosed {
				t.Errorf("%s: %v: %t %d", what, x, is, e)
			}
		})
		if m.Super() != was || m.Room() != room || m.Dead() {
			t.Errorf("%s: %v", what, m.Super())
		}
	}
	for range 2 {
		for _, x := range append(broken(), empty(narrow), empty(odd)) {
			refused("it may not be", x)
		}
		must(t, m.Checkpoint(s, false))
	}
	// One extent too many, and as many as may be.
	d = formatted(t, crowded)
	m, s = load(t, d)
	must(t, m.Checkpoint(s, false))
	over := empty(crowded)
	for i := range 14 {
		over.Extents = append(over.Extents, extent(2*i, 1, 255, 0))
	}
	refused("too many", over)
	over.Extents = over.Extents[:13]
	must(t, m.Checkpoint(over, false))
	if _, e := m.Commit(nil, over); e != api.OK {
		t.Error(e)
	}
}

// P21.2: behind the last generation, epoch and record there is none: ErrArg,
// without a command, and the meta is not dead.
func TestCheckpointLast(t *testing.T) {
	for _, c := range []struct {
		what   string
		change func(b *api.Super)
		code   api.Errno
	}{
		{"the last but one", func(b *api.Super) { b.Generation, b.Epoch, b.First = 1<<40-2, 1<<31-1, 1<<40 }, api.OK},
		{"generation", func(b *api.Super) { b.Generation = 1 << 40 }, api.ErrArg},
		{"epoch", func(b *api.Super) { b.Epoch = 1 << 31 }, api.ErrArg},
	} {
		b := holder(small)
		c.change(&b)
		d := laid(t, small, held(t, b, busy()))
		m, s := load(t, d)
		from := len(given(d))
		if e := m.Checkpoint(s, false); e != c.code || m.Dead() {
			t.Errorf("%s: %d", c.what, e)
		}
		if c.code != api.OK && (m.Super() != b || m.Room() != 0 || len(given(d)) != from) {
			t.Errorf("%s: %v", c.what, m.Super())
		}
	}
	// The ring goes as far as the last record: what is behind it can not last,
	// neither there nor by a checkpoint.
	b := holder(small)
	b.First = 1<<40 - 1
	d := laid(t, small, held(t, b, busy()))
	m, s := load(t, d)
	must(t, m.Checkpoint(s, false))
	for i, want := range []api.Errno{api.OK, api.OK, api.ErrArg, api.ErrArg} {
		if is, e := m.Commit([]api.Delta{hole(i, 1)}, s); is || e != want || m.Dead() {
			t.Error(i, is, e)
		}
	}
	if e := m.Checkpoint(s, false); e != api.ErrArg || m.Dead() || m.Room() != 14 {
		t.Error(e, m.Room())
	}
	if is, e := m.Commit(nil, s); is || e != api.OK {
		t.Error(is, e)
	}
}

// P21.2: which commands a commit gives, and what stands behind it.
func TestCommit(t *testing.T) {
	for _, x := range layouts {
		d, m, _ := begun(t, x.g)
		l := formattedSectors(t, x.g, empty(x.g))
		lay(t, l, m.Super(), empty(x.g))
		p, number := newPlain(x.g), numbers(uint64(x.long))
		for next := 0; m.Room() >= 3; {
			var deltas []api.Delta
			for range number(16) {
				deltas = append(deltas, someDelta(x.g, number))
			}
			n := (len(deltas) + 5) / 6
			for _, c := range deltas {
				p.change(c)
			}
			want := []cmd{flush()}
			if n > 0 {
				p.upto += number(5)
				layGroup(t, l, x.g, deltas, 2, next, p.upto)
				want = append(append(want, writes(x.g, x.ring+next, n)...), flush())
			}
			s := p.state()
			gives(t, "a commit", d, func() {
				if is, e := m.Commit(deltas, s); is || e != api.OK {
					t.Fatal(is, e)
				}
			}, want...)
			next += n
			standsJust(t, "a commit", d, l)
			if m.Room() != x.long-next || m.Dead() || m.Super().Generation != 2 {
				t.Error(m.Room(), m.Super())
			}
			wantLoad(t, "a commit", d, m.Super(), s, next)
		}
	}
}

// P21.2: of nothing a commit is a flush, and no more: not even Upto lasts.
func TestCommitNothing(t *testing.T) {
	d, m, s := begun(t, small)
	must(t, d.Write(2*16, make([]byte, 128)))
	other := busy()
	for _, l := range [][]api.Delta{nil, {}} {
		gives(t, "nothing", d, func() {
			if is, e := m.Commit(l, other); is || e != api.OK {
				t.Error(is, e)
			}
		}, flush())
	}
	if _, x := load(t, d); !same(x, s) || m.Room() != 16 || d.Unsure() > 0 {
		t.Error(x, m.Room())
	}
	// A ring that is full does for nothing.
	if _, e := m.Commit(slices.Repeat([]api.Delta{hole(0, 1)}, 96), s); e != api.OK || m.Room() != 0 {
		t.Error(e)
	}
	if is, e := m.Commit(nil, other); is || e != api.OK || m.Super().Generation != 2 {
		t.Error(is, e)
	}
}

// P21.2: where the ring has too little room a checkpoint is made, of the state as
// it was handed on.
func TestCommitRoom(t *testing.T) {
	for ahead := range 17 {
		for n := 1; n < 120; n += 5 {
			d, m, s := begun(t, small)
			if _, e := m.Commit(slices.Repeat([]api.Delta{hole(0, 1)}, 6*ahead), s); e != api.OK {
				t.Fatal(e)
			}
			s.Upto = 8
			l := slices.Repeat([]api.Delta{hole(4, 1)}, n)
			s, _ = meta.After(small, s, l)
			records := (n + 5) / 6
			want := append([]cmd{flush()}, writes(small, 16+ahead, min(records, 16-ahead))...)
			want = append(want, flush())
			if ahead+records > 16 {
				want = append([]cmd{flush()}, checkpointCmds(small, 3, 0, 1)...)
			}
			gives(t, "room", d, func() {
				if is, e := m.Commit(l, s); is != (ahead+records > 16) || e != api.OK {
					t.Error(ahead, n, is, e)
				}
			}, want...)
			b := api.Super{Generation: 2, Geom: small, Slot: 1, Epoch: 2}
			if ahead+records > 16 {
				b = api.Super{Generation: 3, Geom: small, Slot: 0, Epoch: 3, First: ahead}
				if m.Room() != 16 {
					t.Error(ahead, n, m.Room())
				}
				records = 0
			} else if m.Room() != 16-ahead-records {
				t.Error(ahead, n, m.Room())
			}
			if m.Super() != b {
				t.Error(m.Super())
			}
			// What was ahead of it is in the state alone, where that is new.
			if _, x := load(t, d); ahead == 0 && !same(x, s) || x.Upto != 8 || x.Extents[len(x.Extents)-1] != extent(4, 1, 255, 0) {
				t.Error(ahead, n, x)
			}
		}
	}
}

// P21.2: what a commit refuses, ahead of any command.
func TestCommitRefused(t *testing.T) {
	d := formatted(t, small)
	m, s := load(t, d)
	right := []api.Delta{hole(0, 1)}
	refused := func(what string, l []api.Delta, x api.State, want api.Errno) {
		t.Helper()
		was, room := m.Super(), m.Room()
		gives(t, what, d, func() {
			if is, e := m.Commit(l, x); is || e != want {
				t.Errorf("%s: %v: %t %d", what, l, is, e)
			}
		})
		if m.Super() != was || m.Room() != room || m.Dead() {
			t.Errorf("%s: %v", what, m.Super())
		}
	}
	none := []api.Delta{{}, {Kind: 5}, put(0, 0, 4, 0), put(-1, 1, 4, 0), put(0, 1, 144, 0), put(0, 1, 255, 0), put(0, 1, 4, 1025), hole(1<<32, 1), hole(0, 65536), {Kind: api.DeltaHole, N: 1, Zone: 3}, home(0, 254), {Kind: api.DeltaHome, N: 1}, bad(-1), bad(144), bad(255), {Kind: api.DeltaBad, At: 1, Zone: 3}}
	for _, c := range none {
		refused("without a ring", []api.Delta{c}, s, api.ErrClosed)
	}
	refused("without a ring", nil, s, api.ErrClosed)
	refused("without a ring", right, s, api.ErrClosed)
	refused("without a ring", right, api.State{}, api.ErrClosed)
	must(t, m.Checkpoint(s, false))
	for _, c := range none {
		refused("no delta", []api.Delta{c}, s, api.ErrArg)
		refused("no delta", []api.Delta{hole(0, 1), c}, s, api.ErrArg)
		refused("no delta", append(slices.Repeat(right, 200), c, hole(0, 1)), s, api.ErrArg)
	}
	for _, x := range broken() {
		refused("no state", right, x, api.ErrArg)
		refused("no state", nil, x, api.ErrArg)
	}
	if _, x := load(t, d); !same(x, s) {
		t.Error(x)
	}
}

// P21.2: where a command is refused the meta is dead, and says what it said; what
// is asked of a dead one.
func TestDead(t *testing.T) {
	l := []api.Delta{hole(0, 1), hole(2, 1), hole(4, 1), hole(6, 1), hole(8, 1), hole(10, 1), hole(12, 1)}
	for _, c := range []struct {
		what string
		n    int
		do   func(m *meta.Meta, s api.State) (bool, api.Errno)
	}{
		{"a checkpoint", 4, func(m *meta.Meta, s api.State) (bool, api.Errno) { return false, m.Checkpoint(s, true) }},
		{"a commit", 4, func(m *meta.Meta, s api.State) (bool, api.Errno) { return m.Commit(l, s) }},
		{"a commit of nothing", 1, func(m *meta.Meta, s api.State) (bool, api.Errno) { return m.Commit(nil, s) }},
		{"a commit without room", 5, func(m *meta.Meta, s api.State) (bool, api.Errno) {
			return m.Commit(slices.Repeat(l, 14), s)
		}},
	} {
		for n := range c.n {
			d, m, s := begun(t, small)
			must(t, d.Stop(n))
			was := m.Super()
			if is, e := c.do(m, s); is || e != api.ErrOff || !m.Dead() || m.Super() != was || m.Room() != 16 && m.Room() != 14 {
				t.Errorf("%s, %d: %t %d, %v %d", c.what, n, is, e, m.Super(), m.Room())
			}
			// It stays so, whatever comes behind.
			must(t, d.Crash(nil, nil))
			wantDead(t, c.what, d, m, s)
		}
	}
}

// wantDead wants that a meta is dead.
func wantDead(t *testing.T, what string, d *zdisk.Disk, m *meta.Meta, s api.State) {
	t.Helper()
	was, room := m.Super(), m.Room()
	gives(t, what, d, func() {
		if e := m.Checkpoint(s, false); e != api.ErrClosed {
			t.Errorf("%s: %d", what, e)
		}
		if e := m.Checkpoint(api.State{}, false); e != api.ErrArg {
			t.Errorf("%s: %d", what, e)
		}
		for _, x := range []api.State{s, {}} {
			for _, l := range [][]api.Delta{nil, {hole(0, 1)}, {{}}} {
				if is, e := m.Commit(l, x); is || e != api.ErrClosed {
					t.Errorf("%s: %t %d", what, is, e)
				}
			}
		}
	})
	if !m.Dead() || m.Super() != was || m.Room() != room {
		t.Errorf("%s: %v", what, m.Super())
	}
}

// P21.2: other refusals than the power's.
func TestDeadMedium(t *testing.T) {
	d, m, s := begun(t, small)
	must(t, d.Fail(1))
	if e := m.Checkpoint(s, false); e != api.ErrMedia {
		t.Error(e)
	}
	wantDead(t, "a page", d, m, s)
	d, m, s = begun(t, small)
	must(t, d.Fail(1))
	if is, e := m.Commit([]api.Delta{hole(0, 1)}, s); is || e != api.ErrMedia || m.Room() != 16 {
		t.Error(is, e)
	}
	wantDead(t, "a record", d, m, s)
	d, m, s = begun(t, small)
	must(t, d.Fail(1))
	if is, e := m.Commit(slices.Repeat([]api.Delta{hole(0, 1)}, 97), s); is || e != api.ErrMedia {
		t.Error(is, e)
	}
	wantDead(t, "a page of a commit's", d, m, s)
	for zone, want := range []api.Errno{api.ErrState, api.OK} {
		d, m, s = begun(t, small)
		must(t, d.Hurt(zone, api.ZoneReadOnly))
		if e := m.Checkpoint(s, false); e != want || m.Dead() != (want != api.OK) {
			t.Error(zone, e)
		}
	}
	d, m, s = begun(t, small)
	must(t, d.Hurt(1, api.ZoneReadOnly))
	if is, e := m.Commit([]api.Delta{hole(0, 1)}, s); is || e != api.ErrState {
		t.Error(is, e)
	}
	wantDead(t, "the ring's zone", d, m, s)
}

// P21.2: a group that record has no room for is refused, where the ring has it:
// without a write, and the meta is not dead.
func TestCommitLong(t *testing.T) {
	x := g(16, 5, 1024, 2, 2)
	d, m, s := begun(t, x)
	room := m.Room()
	gives(t, "too long", d, func() {
		if is, e := m.Commit(slices.Repeat([]api.Delta{hole(0, 1)}, 6001), s); is || e != api.ErrLong {
			t.Error(is, e)
		}
	}, flush())
	if m.Dead() || m.Room() != room {
		t.Error(m.Room())
	}
	if is, e := m.Commit(slices.Repeat([]api.Delta{hole(0, 1)}, 6000), s); is || e != api.OK || m.Room() != room-1000 {
		t.Error(is, e)
	}
}
