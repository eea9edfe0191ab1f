package extmap_test

import (
	"math"
	"slices"
	"testing"

	"thatch/api"
	"thatch/extmap"
	"thatch/record"
)

func deltaPut(at, n, zone, off int) api.Delta {
	return api.Delta{Kind: api.DeltaPut, At: at, N: n, Zone: zone, Off: off}
}

func deltaHole(at, n int) api.Delta { return api.Delta{Kind: api.DeltaHole, At: at, N: n} }

func home(band, zone int) api.Delta {
	return api.Delta{Kind: api.DeltaHome, At: band, Zone: zone}
}

func bad(zone int) api.Delta { return api.Delta{Kind: api.DeltaBad, Zone: zone} }

// someDelta is a delta that After takes.
func someDelta(x api.Geom, number func(int) int) api.Delta {
	switch number(8) {
	case 0:
		c := someSpan(x, number)
		return deltaHole(c.At, c.N)
	case 1:
		return home(number(sectorsOf(x)/(x.Len-1)), []int{0, 3, 143, api.NoZone}[number(4)])
	case 2:
		return bad(number(144))
	}
	c := someExtent(x, number)
	return deltaPut(c.At, c.N, c.Zone, c.Off)
}

// P12.3: a map behind deltas, the map itself unchanged.
func TestAfter(t *testing.T) {
	for seed := range uint64(60) {
		x := []api.Geom{small, g(3, 6, 12, 3, 2), g(2, 7, 13, 4, 3)}[seed%3]
		m, p := made(t, x, seed, 20)
		number := numbers(seed + 100)
		want := p.clone()
		var l []api.Delta
		for range 12 {
			d := someDelta(x, number)
			if e := want.change(d); e != api.OK {
				t.Fatal(d, e)
			}
			l = append(l, d)
			a, e := m.After(l)
			if e != api.OK {
				t.Fatal(l, e)
			}
			wantMap(t, "behind", a, want)
			wantMap(t, "ahead", m, p)
		}
		a, _ := m.After(l)
		for range 10 {
			step(t, m, p, number)
			wantMap(t, "behind, the other one changed", a, want)
			step(t, a, want, number)
			wantMap(t, "ahead, the other one changed", m, p)
		}
	}
}

// P12.3: kind by kind.
func TestAfterKinds(t *testing.T) {
	m := of(t, small, put(4, 16, 3, 0), nothing(20, 20))
	after := func(want []api.Extent, l ...api.Delta) {
		t.Helper()
		a, e := m.After(l)
		if e != api.OK {
			t.Fatal(l, e)
		}
		wantExtents(t, "behind deltas", a, want...)
	}
	ahead := []api.Extent{put(4, 16, 3, 0), nothing(20, 20)}
	after(ahead)
	after(ahead, bad(2), bad(0), bad(143))
	after([]api.Extent{put(15, 5, 3, 11), nothing(20, 20)}, home(0, 4))
	after([]api.Extent{put(15, 5, 3, 11), nothing(20, 20)}, home(0, api.NoZone))
	after([]api.Extent{put(15, 5, 3, 11), nothing(20, 20)}, home(0, 0))
	after([]api.Extent{put(4, 11, 3, 0), nothing(30, 10)}, home(1, 143))
	after([]api.Extent{put(4, 16, 3, 0), nothing(20, 10)}, home(2, 4))
	after(nil, home(2, 4), home(0, 4), home(1, 4))
	after([]api.Extent{put(4, 2, 3, 0), nothing(6, 34)}, deltaHole(6, 14))
	after([]api.Extent{put(4, 2, 3, 0), put(6, 3, 7, 13), put(9, 11, 3, 5), nothing(20, 20)}, deltaPut(6, 3, 7, 13))
	after([]api.Extent{nothing(0, 45)}, home(0, 4), deltaHole(0, 45))
	after([]api.Extent{put(2, 1, 5, 3), put(15, 5, 3, 11), nothing(20, 20)}, deltaPut(2, 1, 5, 2), home(0, 4), deltaPut(2, 1, 5, 3))
	wantExtents(t, "ahead", m, ahead...)
}

// P12.3: deltas longer than an extent, and over multiples of 4096.
func TestAfterLong(t *testing.T) {
	m, _ := extmap.New(wide)
	a, e := m.After([]api.Delta{deltaHole(0, 14322), deltaPut(4000, 1024, 17, 0), home(0, api.NoZone), deltaHole(4100, 1)})
	if e != api.OK {
		t.Fatal(e)
	}
	wantExtents(t, "long ones", a, nothing(1023, 2977), put(4000, 96, 17, 0), put(4096, 4, 17, 96), nothing(4100, 1), put(4101, 923, 17, 101), nothing(5024, 3168), nothing(8192, 4096), nothing(12288, 2034))
	var l []api.Delta
	for i := range 7000 {
		l = append(l, deltaPut(2*i, 1, 5, 7))
	}
	if a, e := m.After(l); e != api.OK || a.Len() != 7000 || a.Sectors() != 7000 {
		t.Error("more than a group has", e)
	}
}

// P12.3: what is refused, delta by delta, and that nothing comes of it.
func TestAfterRefused(t *testing.T) {
	m, p := made(t, small, 11, 30)
	ranges := []api.Delta{deltaPut(44, 2, 3, 0), deltaPut(45, 1, 3, 0), deltaPut(1<<32-1, 65535, 3, 0), deltaPut(44, 2, 1, 0), deltaHole(44, 2), deltaHole(45, 1), deltaHole(0, 46), home(3, 3), home(3, api.NoZone), home(1<<32-1, 3)}
	arg := []api.Delta{
		deltaPut(0, 1, 1, 0), deltaPut(0, 1, 8, 0), deltaPut(0, 1, 143, 0), deltaPut(0, 2, 3, 15), deltaPut(0, 1, 3, 16), deltaPut(0, 1, 3, 1024), deltaPut(0, 17, 3, 0),
		{}, {Kind: 5}, {Kind: -1}, {Kind: math.MaxInt, At: 99}, deltaPut(0, 0, 3, 0), deltaPut(0, -1, 3, 0), deltaPut(-1, 1, 3, 0), deltaPut(1<<32, 1, 3, 0), deltaPut(0, 65536, 3, 0), deltaPut(0, 1, 3, -1), deltaPut(0, 1, 3, 1025), deltaPut(0, 1, -1, 0), deltaPut(0, 1, 144, 0), deltaPut(0, 1, api.NoZone, 0),
		deltaHole(0, 0), deltaHole(-1, 1), deltaHole(1<<32, 1), deltaHole(0, 65536), {Kind: api.DeltaHole, At: 0, N: 1, Zone: 3}, {Kind: api.DeltaHole, At: 0, N: 1, Off: 3}, {Kind: api.DeltaHole, At: 0, N: 1, Zone: api.NoZone},
		home(-1, 3), home(1<<32, 3), home(0, -1), home(0, 144), home(0, 254), home(0, 256), {Kind: api.DeltaHome, N: 1}, {Kind: api.DeltaHome, Off: 1},
		bad(-1), bad(144), bad(api.NoZone), {Kind: api.DeltaBad, At: 1, Zone: 3}, {Kind: api.DeltaBad, N: 1, Zone: 3}, {Kind: api.DeltaBad, Off: 1, Zone: 3},
	}
	want := func(code api.Errno, l ...api.Delta) {
		t.Helper()
		if a, e := m.After(l); a != nil || e != code {
			t.Errorf("%v: %d, not %d", l, e, code)
		}
	}
	right := []api.Delta{deltaPut(0, 16, 7, 0), home(0, 3), deltaHole(0, 45), bad(3)}
	for _, c := range []struct {
		l     []api.Delta
		code  api.Errno
		other []api.Delta
	}{{ranges, api.ErrRange, arg}, {arg, api.ErrArg, ranges}} {
		for _, d := range c.l {
			want(c.code, d)
			want(c.code, append(slices.Clone(right), d)...)
			want(c.code, append([]api.Delta{d}, right...)...)
			// The first one of two that are refused tells.
			for _, o := range c.other {
				want(c.code, d, o)
			}
		}
	}
	wantMap(t, "refused", m, p)
}

// P12.5: what Diff refuses.
func TestDiffRefused(t *testing.T) {
	want := func(a, b *extmap.Map, code api.Errno) {
		t.Helper()
		if l, e := extmap.Diff(a, b); len(l) != 0 || e != code {
			t.Errorf("%v %d, not %d", l, e, code)
		}
	}
	m := of(t, small, put(4, 4, 3, 0))
	want(nil, nil, api.ErrGeom)
	want(m, nil, api.ErrGeom)
	want(nil, m, api.ErrGeom)
	for _, x := range []api.Geom{wide, g(3, 6, 16, 3, 2), g(2, 7, 16, 3, 2), g(2, 6, 17, 3, 2), g(2, 6, 16, 4, 2), g(2, 6, 16, 3, 3)} {
		want(m, of(t, x), api.ErrGeom)
		want(of(t, x), m, api.ErrGeom)
		want(of(t, x), of(t, small), api.ErrGeom)
	}
	for _, l := range [][]api.Extent{nil, {put(4, 3, 3, 0)}, {put(5, 3, 3, 1)}, {put(4, 1, 3, 0), put(6, 2, 3, 2)}, {nothing(0, 4), nothing(8, 37)}, {nothing(0, 7), nothing(8, 37)}, {nothing(0, 4), nothing(5, 40)}} {
		want(m, of(t, small, l...), api.ErrArg)
	}
	want(of(t, small, nothing(0, 45)), of(t, small, nothing(0, 44)), api.ErrArg)
	want(of(t, small, nothing(44, 1)), of(t, small), api.ErrArg)
}

// P12.5: the fewest deltas, written out.
func TestDiffWritten(t *testing.T) {
	for _, c := range []struct {
		what string
		a, b []api.Extent
		want []api.Delta
	}{
		{"nothing at all", nil, nil, nil},
		{"the same", []api.Extent{put(4, 4, 3, 0), nothing(9, 3)}, []api.Extent{put(4, 4, 3, 0), nothing(9, 3)}, nil},
		{"all new", nil, []api.Extent{put(4, 4, 3, 0), nothing(9, 3)}, []api.Delta{deltaPut(4, 4, 3, 0), deltaHole(9, 3)}},
		{"more ahead and behind", []api.Extent{put(4, 4, 3, 2)}, []api.Extent{put(2, 8, 3, 0)}, []api.Delta{deltaPut(2, 2, 3, 0), deltaPut(8, 2, 3, 6)}},
		{"elsewhere", []api.Extent{put(4, 4, 3, 2)}, []api.Extent{put(4, 4, 3, 3)}, []api.Delta{deltaPut(4, 4, 3, 3)}},
		{"another zone", []api.Extent{put(4, 4, 3, 2)}, []api.Extent{put(4, 4, 4, 2)}, []api.Delta{deltaPut(4, 4, 4, 2)}},
		{"nothing any more", []api.Extent{put(4, 4, 3, 0)}, []api.Extent{nothing(2, 8)}, []api.Delta{deltaHole(2, 8)}},
		{"nothing was there", []api.Extent{nothing(2, 8)}, []api.Extent{put(2, 8, 3, 0)}, []api.Delta{deltaPut(2, 8, 3, 0)}},
		{"over several", []api.Extent{put(2, 2, 3, 0), nothing(4, 2), put(7, 2, 5, 0)}, []api.Extent{put(1, 10, 7, 4)}, []api.Delta{deltaPut(1, 10, 7, 4)}},
		{"the middle stays", []api.Extent{put(2, 2, 3, 0), put(4, 2, 7, 7), put(6, 2, 5, 0)}, []api.Extent{put(1, 10, 7, 4)}, []api.Delta{deltaPut(1, 3, 7, 4), deltaPut(6, 5, 7, 9)}},
		{"one extent each", nil, []api.Extent{put(1, 2, 3, 0), put(3, 2, 3, 0), nothing(5, 1), put(6, 1, 4, 0)}, []api.Delta{deltaPut(1, 2, 3, 0), deltaPut(3, 2, 3, 0), deltaHole(5, 1), deltaPut(6, 1, 4, 0)}},
		{"cut in two", []api.Extent{put(0, 10, 4, 0)}, []api.Extent{put(0, 3, 4, 0), nothing(3, 2), put(5, 5, 4, 5)}, []api.Delta{deltaHole(3, 2)}},
		{"holes in a hole", []api.Extent{nothing(3, 1), nothing(5, 1)}, []api.Extent{nothing(0, 8)}, []api.Delta{deltaHole(0, 3), deltaHole(4, 1), deltaHole(6, 2)}},
	} {
		l, e := extmap.Diff(of(t, small, c.a...), of(t, small, c.b...))
		if e != api.OK || !slices.Equal(l, c.want) {
			t.Errorf("%s: %v %d, not %v", c.what, l, e, c.want)
		}
	}
	a, b := of(t, wide), of(t, wide)
	b.Hole(s(4000, 9000))
	b.Put(put(8190, 4, 3, 0))
	l, e := extmap.Diff(a, b)
	if e != api.OK || !slices.Equal(l, []api.Delta{deltaHole(4000, 96), deltaHole(4096, 4094), deltaPut(8190, 2, 3, 0), deltaPut(8192, 2, 3, 2), deltaHole(8194, 4094), deltaHole(12288, 712)}) {
		t.Error("over multiples of 4096", l, e)
	}
}

// P12.5: Diff of any maps: as a list of places has it, behind which one says what
// the other one says.
func TestDiff(t *testing.T) {
	refused, told := 0, 0
	for seed := range uint64(600) {
		x := []api.Geom{small, g(3, 6, 12, 3, 2), g(2, 7, 13, 4, 3), wide}[seed%4]
		if x == wide && seed > 80 {
			x = small
		}
		a, p := made(t, x, seed, int(seed%30))
		b, q := a.Fork(), p.clone()
		number := numbers(seed + 1000)
		for range seed / 8 % 9 {
			c := someExtent(x, number)
			if number(3) == 0 {
				c = nothing(c.At, c.N)
			}
			b.Put(c)
			q.set(c)
		}
		if seed%5 == 0 {
			b, q = made(t, x, seed+2000, 40)
		}
		l, e := extmap.Diff(a, b)
		want, is := p.diff(q)
		if !is {
			refused++
			if e != api.ErrArg || len(l) != 0 {
				t.Fatalf("%v %d", l, e)
			}
			continue
		}
		if e != api.OK || !slices.Equal(l, want) {
			t.Fatalf("%v %d, not %v", l, e, want)
		}
		told += len(l)
		for _, d := range l {
			if !record.MayDelta(d) {
				t.Fatalf("%v may not be", d)
			}
		}
		behind, e := a.After(l)
		if e != api.OK {
			t.Fatal(e)
		}
		wantMap(t, "behind a Diff", behind, q)
		wantMap(t, "ahead", a, p)
		wantMap(t, "the other one", b, q)
	}
	if refused < 20 || told < 500 {
		t.Error("too little was tried", refused, told)
	}
}

// R3: deltas are not changed, nor the room behind them; those that are told are
// new memory.
func TestDeltasShared(t *testing.T) {
	m, p := made(t, small, 2, 30)
	room := []api.Delta{deltaPut(0, 3, 3, 0), home(1, 3), deltaHole(20, 3), bad(9), deltaHole(30, 1)}
	was := slices.Clone(room)
	a, e := m.After(room[:3])
	if e != api.OK || !slices.Equal(room, was) {
		t.Fatal(e, room)
	}
	q := p.clone()
	for _, d := range was[:3] {
		q.change(d)
	}
	clear(room)
	wantMap(t, "behind", a, q)
	empty := of(t, small)
	l, _ := extmap.Diff(empty, a)
	again, _ := extmap.Diff(empty, a)
	want, _ := newPlain(small).diff(q)
	clear(l[:cap(l)])
	if !slices.Equal(again, want) {
		t.Error("deltas are shared")
	}
	wantMap(t, "told", a, q)
}
