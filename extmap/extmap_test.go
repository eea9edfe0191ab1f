package extmap_test

import (
	"math"
	"slices"
	"testing"

	"thatch/api"
	"thatch/extmap"
)

// of is a map that extents make.
func of(t *testing.T, x api.Geom, l ...api.Extent) *extmap.Map {
	t.Helper()
	m, e := extmap.Load(x, l)
	if e != api.OK {
		t.Fatal(l, e)
	}
	return m
}

// wantExtents wants that a map has just these extents.
func wantExtents(t *testing.T, what string, m *extmap.Map, want ...api.Extent) {
	t.Helper()
	if got := m.Extents(); !slices.Equal(got, want) || m.Len() != len(want) {
		t.Errorf("%s: %v, not %v", what, got, want)
	}
}

// P12.1: the map that says nothing.
func TestNew(t *testing.T) {
	for _, x := range []api.Geom{small, wide, g(2, 4, 8, 2, 1), g(16, 128, 1024, 128, 126)} {
		m, e := extmap.New(x)
		if e != api.OK || m == nil {
			t.Fatal(x, e)
		}
		wantMap(t, "new", m, newPlain(x))
		wantLook(t, m, newPlain(x), s(0, sectorsOf(x)))
	}
	for _, x := range brokenGeoms() {
		if m, e := extmap.New(x); m != nil || e != api.ErrGeom {
			t.Errorf("%v: %v %d", x, m, e)
		}
		for _, l := range [][]api.Extent{nil, {put(0, 1, 3, 0)}, {{}}} {
			if m, e := extmap.Load(x, l); m != nil || e != api.ErrGeom {
				t.Errorf("%v: %v %d", x, m, e)
			}
		}
	}
}

// P12.1: the example, step by step.
func TestExample(t *testing.T) {
	m, _ := extmap.New(small)
	if m.Put(put(0, 10, 4, 0)) != api.OK || m.Hole(s(3, 2)) != api.OK {
		t.Error("refused")
	}
	wantExtents(t, "example", m, put(0, 3, 4, 0), nothing(3, 2), put(5, 5, 4, 5))
}

// P12.1: extents that go on are one, wherever the second one comes from.
func TestJoined(t *testing.T) {
	for _, c := range []struct {
		what string
		l    []api.Extent
		want []api.Extent
	}{
		{"behind", []api.Extent{put(3, 2, 4, 1), put(5, 3, 4, 3)}, []api.Extent{put(3, 5, 4, 1)}},
		{"ahead", []api.Extent{put(5, 3, 4, 3), put(3, 2, 4, 1)}, []api.Extent{put(3, 5, 4, 1)}},
		{"between", []api.Extent{put(3, 2, 4, 1), put(7, 2, 4, 5), put(5, 2, 4, 3)}, []api.Extent{put(3, 6, 4, 1)}},
		{"holes", []api.Extent{nothing(3, 2), nothing(7, 2), nothing(5, 2)}, []api.Extent{nothing(3, 6)}},
		{"the same once more", []api.Extent{put(3, 6, 4, 1), put(4, 2, 4, 2)}, []api.Extent{put(3, 6, 4, 1)}},
		{"over both", []api.Extent{put(3, 3, 4, 1), put(6, 3, 5, 1), put(5, 2, 4, 3)}, []api.Extent{put(3, 4, 4, 1), put(7, 2, 5, 2)}},
		{"mended", []api.Extent{put(3, 6, 4, 1), nothing(5, 1), put(5, 1, 4, 3)}, []api.Extent{put(3, 6, 4, 1)}},
		{"another zone", []api.Extent{put(3, 2, 4, 1), put(5, 2, 5, 3)}, []api.Extent{put(3, 2, 4, 1), put(5, 2, 5, 3)}},
		{"not behind", []api.Extent{put(3, 2, 4, 1), put(5, 2, 4, 4)}, []api.Extent{put(3, 2, 4, 1), put(5, 2, 4, 4)}},
		{"the same place", []api.Extent{put(3, 2, 4, 1), put(5, 2, 4, 1)}, []api.Extent{put(3, 2, 4, 1), put(5, 2, 4, 1)}},
		{"backward", []api.Extent{put(5, 2, 4, 1), put(3, 2, 4, 3)}, []api.Extent{put(3, 2, 4, 3), put(5, 2, 4, 1)}},
		{"a gap", []api.Extent{put(3, 2, 4, 1), put(6, 2, 4, 4)}, []api.Extent{put(3, 2, 4, 1), put(6, 2, 4, 4)}},
		{"nothing beside", []api.Extent{put(3, 2, 4, 0), nothing(5, 2), nothing(1, 2)}, []api.Extent{nothing(1, 2), put(3, 2, 4, 0), nothing(5, 2)}},
		{"all gone", []api.Extent{put(3, 2, 4, 0), nothing(5, 2), put(8, 1, 5, 0), nothing(0, 45)}, []api.Extent{nothing(0, 45)}},
		{"over a band's end", []api.Extent{put(14, 1, 4, 3), put(15, 1, 4, 4)}, []api.Extent{put(14, 2, 4, 3)}},
	} {
		m, _ := extmap.New(small)
		for _, x := range c.l {
			if e := m.Put(x); e != api.OK {
				t.Errorf("%s: %v: %d", c.what, x, e)
			}
		}
		wantExtents(t, c.what, m, c.want...)
	}
}

// P12.1: what goes over a multiple of 4096 is cut there, and stays cut.
func TestCut(t *testing.T) {
	m, _ := extmap.New(wide)
	if e := m.Put(put(4000, 1000, 5, 24)); e != api.OK {
		t.Fatal(e)
	}
	wantExtents(t, "put", m, put(4000, 96, 5, 24), put(4096, 904, 5, 120))
	if e := m.Hole(s(4095, 10000)); e != api.OK {
		t.Fatal(e)
	}
	wantExtents(t, "hole", m, put(4000, 95, 5, 24), nothing(4095, 1), nothing(4096, 4096), nothing(8192, 4096), nothing(12288, 1807))
	m, _ = extmap.New(wide)
	if e := m.Put(nothing(0, 14322)); e != api.OK {
		t.Fatal(e)
	}
	wantExtents(t, "a long one of nothing", m, nothing(0, 4096), nothing(4096, 4096), nothing(8192, 4096), nothing(12288, 2034))
	if e := m.Put(put(8191, 2, 2, 1022)); e != api.OK {
		t.Fatal(e)
	}
	wantExtents(t, "two sectors", m, nothing(0, 4096), nothing(4096, 4095), put(8191, 1, 2, 1022), put(8192, 1, 2, 1023), nothing(8193, 4095), nothing(12288, 2034))
	if l, gaps, e := m.Look(s(4000, 5000)); e != api.OK || len(gaps) != 0 || !slices.Equal(l, []api.Extent{nothing(4000, 96), nothing(4096, 4095), put(8191, 1, 2, 1022), put(8192, 1, 2, 1023), nothing(8193, 807)}) {
		t.Error("Look", l, gaps, e)
	}
	if e := m.Drop(s(4000, 9000)); e != api.OK {
		t.Fatal(e)
	}
	if l, gaps, e := m.Look(s(3000, 11000)); e != api.OK || !slices.Equal(gaps, []api.Span{s(4000, 9000)}) || !slices.Equal(l, []api.Extent{nothing(3000, 1000), nothing(13000, 1000)}) {
		t.Error("a gap is as long as can be", l, gaps, e)
	}
}

// P12.1: what is refused, and that it changes nothing; the sectors are asked ahead
// of all else.
func TestRefused(t *testing.T) {
	m, p := made(t, small, 3, 40)
	for _, x := range []api.Span{s(0, 0), s(44, 2), s(45, 1), s(-1, 1), s(-1, 2), s(0, 46), s(0, -1), s(7, math.MinInt), s(math.MinInt, 1), s(math.MaxInt, 1), s(1, math.MaxInt), s(math.MaxInt, math.MaxInt), s(1<<40, 1), s(44, 0), {}} {
		for _, zone := range []int{3, 1, api.NoZone, -1, math.MaxInt} {
			for _, off := range []int{0, 15, 16, -1, math.MinInt, math.MaxInt} {
				if e := m.Put(put(x.At, x.N, zone, off)); e != api.ErrRange {
					t.Errorf("Put of %v to %d %d: %d", x, zone, off, e)
				}
			}
		}
		if e := m.Hole(x); e != api.ErrRange {
			t.Errorf("Hole of %v: %d", x, e)
		}
		if e := m.Drop(x); e != api.ErrRange {
			t.Errorf("Drop of %v: %d", x, e)
		}
		if l, gaps, e := m.Look(x); e != api.ErrRange || len(l) != 0 || len(gaps) != 0 {
			t.Errorf("Look at %v: %v %v %d", x, l, gaps, e)
		}
	}
	for _, x := range []api.Extent{
		put(0, 1, 0, 0), put(0, 1, 1, 0), put(0, 1, 8, 0), put(0, 1, -1, 0), put(0, 1, 254, 0), put(0, 1, 256, 0), put(0, 1, math.MinInt, 0), put(0, 1, math.MaxInt, 0),
		put(0, 1, 3, -1), put(0, 1, 3, 16), put(0, 2, 3, 15), put(0, 16, 3, 1), put(0, 17, 3, 0), put(0, 17, 3, -1), put(0, 45, 3, 0), put(0, 1, 3, math.MinInt), put(0, 1, 3, math.MaxInt), put(0, 16, 3, math.MaxInt-3),
		put(0, 1, api.NoZone, 1), put(0, 45, api.NoZone, -1), put(0, 1, api.NoZone, math.MaxInt), put(0, 1, api.NoZone, math.MinInt),
	} {
		if e := m.Put(x); e != api.ErrArg {
			t.Errorf("Put of %v: %d", x, e)
		}
	}
	wantMap(t, "refused", m, p)
	m, p = made(t, wide, 3, 40)
	for _, x := range []api.Extent{
		put(4095, 2, 3, 1023), put(4095, 2, 3, -1), put(4095, 1025, 3, 0), put(0, 14322, 3, 0), put(4095, 2, 1, 0), put(4095, 2, api.NoZone, 1), put(4095, 2, api.NoZone, -1), put(4095, 4098, api.NoZone, -4097),
		put(4095, 1024, 3, 1), put(4095, 2, 3, math.MaxInt), put(4095, 2, 3, math.MinInt), put(4095, 2, 18, 0),
	} {
		if e := m.Put(x); e != api.ErrArg {
			t.Errorf("Put of %v: %d", x, e)
		}
	}
	wantMap(t, "refused", m, p)
	if m.Put(put(4000, 1024, 17, 0)) != api.OK || m.Put(put(14321, 1, 2, 1023)) != api.OK || m.Put(put(0, 1, 2, 0)) != api.OK {
		t.Error("the edges")
	}
}

// P12.1: what Load refuses, and that it joins what goes on.
func TestLoad(t *testing.T) {
	for _, l := range [][]api.Extent{
		{{}}, {put(0, 0, 3, 0)}, {put(45, 1, 3, 0)}, {put(44, 2, 3, 0)}, {put(-1, 1, 3, 0)}, {put(0, 1, 1, 0)}, {put(0, 1, 8, 0)}, {put(0, 2, 3, 15)}, {put(0, 1, 3, -1)}, {put(0, 1, 255, 1)},
		{put(4, 2, 3, 0), put(5, 1, 3, 1)}, {put(4, 2, 3, 0), put(4, 2, 3, 0)}, {put(4, 2, 3, 0), put(3, 1, 3, 0)}, {put(4, 2, 3, 0), put(2, 1, 3, 0)}, {nothing(4, 2), nothing(5, 2)},
		{put(0, 1, 3, 0), put(9, 9, 3, 0), put(8, 1, 3, 0)}, {put(0, 9, 3, 0), put(1, 1, 3, 0), put(9, 1, 3, 0)}, {put(0, 1, 3, 0), put(1, 1, 3, 0), {}}, {put(0, 1, 3, 0), put(1, math.MaxInt, 3, 0)}, {put(math.MaxInt, 1, 3, 0)},
	} {
		if m, e := extmap.Load(small, l); m != nil || e != api.ErrArg {
			t.Errorf("%v: %d", l, e)
		}
	}
	for _, x := range []api.Extent{nothing(4095, 2), nothing(0, 4097), put(4000, 1000, 3, 0), nothing(0, 14322)} {
		if m, e := extmap.Load(wide, []api.Extent{x}); m != nil || e != api.ErrArg {
			t.Errorf("%v goes over a multiple: %d", x, e)
		}
	}
	wantExtents(t, "joined", of(t, small, put(0, 1, 3, 0), put(1, 1, 3, 1), put(2, 3, 3, 2), put(5, 1, 4, 5), nothing(6, 1), nothing(7, 3), put(11, 1, 4, 6)), put(0, 5, 3, 0), put(5, 1, 4, 5), nothing(6, 4), put(11, 1, 4, 6))
	wantExtents(t, "not joined", of(t, wide, nothing(0, 4096), nothing(4096, 1), put(8190, 2, 3, 0), put(8192, 2, 3, 2)), nothing(0, 4096), nothing(4096, 1), put(8190, 2, 3, 0), put(8192, 2, 3, 2))
	var l []api.Extent
	for i := range 14322 {
		l = append(l, put(i, 1, 2+i%16, i%1024))
	}
	if m := of(t, wide, l...); m.Len() != 14322 || m.Sectors() != 14322 || !slices.Equal(m.Extents(), l) {
		t.Error("as many extents as sectors", m.Len())
	}
}

// P12.1, P12.2, P12.4: behind each of many steps a map says what a list of places says,
// and loaded from its extents it is the same.
func TestSteps(t *testing.T) {
	for seed := range uint64(40) {
		x := []api.Geom{small, g(2, 4, 8, 2, 1), g(3, 6, 12, 3, 2), g(2, 7, 13, 4, 3)}[seed%4]
		m, _ := extmap.New(x)
		p, number := newPlain(x), numbers(seed)
		for range 60 {
			step(t, m, p, number)
			wantMap(t, "a step", m, p)
			wantLook(t, m, p, someSpan(x, number))
			wantMap(t, "loaded", of(t, x, m.Extents()...), p)
		}
	}
	m, p := made(t, wide, 5, 0)
	number := numbers(77)
	for i := range 400 {
		step(t, m, p, number)
		wantLook(t, m, p, someSpan(wide, number))
		if i%40 == 0 {
			wantMap(t, "a step", m, p)
			wantMap(t, "loaded", of(t, wide, m.Extents()...), p)
		}
	}
}

// P12.2: Look at each span of a small device.
func TestLook(t *testing.T) {
	for seed := range uint64(6) {
		m, p := made(t, small, seed, 15)
		for at := range 45 {
			for n := 1; at+n <= 45; n++ {
				wantLook(t, m, p, s(at, n))
			}
		}
		wantMap(t, "looked at", m, p)
	}
	m := of(t, small, put(4, 4, 5, 1), nothing(8, 3), put(20, 2, 3, 0))
	l, gaps, e := m.Look(s(5, 20))
	if e != api.OK || !slices.Equal(l, []api.Extent{put(5, 3, 5, 2), nothing(8, 3), put(20, 2, 3, 0)}) || !slices.Equal(gaps, []api.Span{s(11, 9), s(22, 3)}) {
		t.Error(l, gaps, e)
	}
	l, gaps, e = m.Look(s(6, 1))
	if e != api.OK || !slices.Equal(l, []api.Extent{put(6, 1, 5, 3)}) || len(gaps) != 0 {
		t.Error(l, gaps, e)
	}
	l, gaps, e = m.Look(s(11, 9))
	if e != api.OK || len(l) != 0 || !slices.Equal(gaps, []api.Span{s(11, 9)}) {
		t.Error(l, gaps, e)
	}
}

// P12.2: At of sectors that there are not.
func TestAt(t *testing.T) {
	m := of(t, small, put(0, 16, 5, 0), nothing(16, 28), put(44, 1, 7, 15))
	for _, at := range []int{math.MinInt, -1, 45, 46, 1 << 40, math.MaxInt} {
		if zone, off, ok := m.At(at); zone != 0 || off != 0 || ok {
			t.Errorf("%d: %d %d %t", at, zone, off, ok)
		}
	}
	if zone, off, ok := m.At(44); zone != 7 || off != 15 || !ok {
		t.Error(zone, off, ok)
	}
	if zone, off, ok := m.At(43); zone != api.NoZone || off != 0 || !ok {
		t.Error(zone, off, ok)
	}
}

// P12.2, R5: All may be stopped, begins anew, and goes over the map as it is when
// it is ranged over.
func TestAll(t *testing.T) {
	m, p := made(t, small, 9, 30)
	all := m.All()
	want := p.extents()
	if len(want) < 4 {
		t.Fatal(want)
	}
	for range 2 {
		for stop := range len(want) {
			var got []api.Extent
			for x := range all {
				got = append(got, x)
				if len(got) == stop+1 {
					break
				}
			}
			if !slices.Equal(got, want[:stop+1]) {
				t.Errorf("stopped behind %d: %v", stop+1, got)
			}
		}
	}
	for range all {
		if !slices.Equal(slices.Collect(all), want) {
			t.Error("one within another")
		}
	}
	m.Hole(s(0, 45))
	if !slices.Equal(slices.Collect(all), []api.Extent{nothing(0, 45)}) {
		t.Error("not as the map is when it is ranged over")
	}
	m.Drop(s(0, 45))
	if len(slices.Collect(all)) != 0 {
		t.Error("something in nothing")
	}
}

// P12.2, P12.4: Fork is another map.
func TestFork(t *testing.T) {
	m, p := made(t, small, 4, 30)
	f, q := m.Fork(), p.clone()
	wantMap(t, "forked", f, p)
	number := numbers(8)
	for range 60 {
		step(t, m, p, number)
		wantMap(t, "the fork", f, q)
		step(t, f, q, number)
		wantMap(t, "the map", m, p)
	}
	empty, _ := extmap.New(small)
	f = empty.Fork()
	f.Hole(s(0, 1))
	wantExtents(t, "an empty one", empty)
	wantExtents(t, "its fork", f, nothing(0, 1))
}

// P12.5: zones where something lies, and what lies there.
func TestZones(t *testing.T) {
	m := of(t, small, put(0, 2, 7, 3), nothing(2, 9), put(11, 1, 2, 0), put(12, 4, 7, 3), put(20, 1, 7, 0), put(30, 1, 5, 15), put(40, 2, 7, 4))
	if got := m.Zones(); !slices.Equal(got, []int{2, 5, 7}) {
		t.Error(got)
	}
	if got := m.Inside(7); !slices.Equal(got, []api.Extent{put(20, 1, 7, 0), put(0, 2, 7, 3), put(12, 4, 7, 3), put(40, 2, 7, 4)}) {
		t.Error(got)
	}
	for _, zone := range []int{math.MinInt, -1, 0, 1, 3, 4, 6, 8, 254, api.NoZone, 256, math.MaxInt} {
		if got := m.Inside(zone); len(got) != 0 {
			t.Errorf("in zone %d: %v", zone, got)
		}
	}
	if m := of(t, small, nothing(0, 45)); len(m.Zones()) != 0 || len(m.Inside(api.NoZone)) != 0 {
		t.Error("nothing lies in a zone")
	}
}

// P12.1 to P12.3, P12.5: of a nil Map.
func TestNil(t *testing.T) {
	var m *extmap.Map
	if m.Put(put(0, 1, 3, 0)) != api.ErrClosed || m.Put(api.Extent{}) != api.ErrClosed || m.Hole(s(0, 1)) != api.ErrClosed || m.Drop(s(0, 1)) != api.ErrClosed {
		t.Error("changes")
	}
	if l, gaps, e := m.Look(s(0, 1)); len(l) != 0 || len(gaps) != 0 || e != api.ErrClosed {
		t.Error("Look", l, gaps, e)
	}
	if zone, off, ok := m.At(0); zone != 0 || off != 0 || ok {
		t.Error("At", zone, off, ok)
	}
	if m.Len() != 0 || m.Sectors() != 0 || len(m.Extents()) != 0 || m.Fork() != nil || len(m.Zones()) != 0 || len(m.Inside(3)) != 0 || len(m.Inside(api.NoZone)) != 0 {
		t.Error("something")
	}
	for x := range m.All() {
		t.Error("All", x)
	}
	for _, l := range [][]api.Delta{nil, {{Kind: api.DeltaHole, N: 1}}, {{}}} {
		if a, e := m.After(l); a != nil || e != api.ErrClosed {
			t.Error("After", a, e)
		}
	}
}

// R3: what is handed in is not changed, nor the room behind it, and answers are
// new memory that they do not share with one another, nor with the map.
func TestNothingShared(t *testing.T) {
	room := []api.Extent{put(0, 2, 3, 0), put(2, 2, 3, 2), nothing(5, 1), put(6, 2, 3, 2), put(7, 1, 4, 0), put(9, 1, 4, 0)}
	was := slices.Clone(room)
	m := of(t, small, room[:4]...)
	p := newPlain(small)
	for _, x := range was[:4] {
		p.set(x)
	}
	m.Put(put(4, 1, 5, 0))
	p.set(put(4, 1, 5, 0))
	if !slices.Equal(room, was) {
		t.Error("Load's list is changed", room)
	}
	wipe(room)
	wantMap(t, "the list that was loaded", m, p)
	look, gaps, _ := m.Look(s(0, 45))
	a, b := m.Extents(), m.Extents()
	wipe(look)
	gaps = gaps[:cap(gaps)]
	for i := range gaps {
		gaps[i] = s(-1, -1)
	}
	wipe(m.Inside(3))
	zones := m.Zones()
	zones = zones[:cap(zones)]
	for i := range zones {
		zones[i] = -1
	}
	wipe(a)
	wantMap(t, "answers", m, p)
	if !slices.Equal(b, p.extents()) {
		t.Error("lists share")
	}
	f := m.Fork()
	wipe(f.Extents())
	wantMap(t, "a fork", f, p)
	wantMap(t, "a map that was forked", m, p)
}

// wipe changes a list, and the room behind its end.
func wipe(l []api.Extent) {
	l = l[:cap(l)]
	for i := range l {
		l[i] = put(-1, -1, -1, -1)
	}
}
