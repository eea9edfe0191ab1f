package extmap_test

import (
	"cmp"
	"math"
	"slices"
	"testing"

	"thatch/api"
	"thatch/extmap"
	"thatch/geom"
)

func g(conv, seq, length, limit, cache int) api.Geom {
	return api.Geom{Conv: conv, Seq: seq, Len: length, Limit: limit, Cache: cache}
}

func s(at, n int) api.Span { return api.Span{At: at, N: n} }

func put(at, n, zone, off int) api.Extent {
	return api.Extent{At: at, N: n, Zone: zone, Off: off}
}

func nothing(at, n int) api.Extent { return put(at, n, api.NoZone, 0) }

// small has 45 sectors in 3 bands, zones 2 to 7 are sequential, of 16 sectors;
// wide has 14322 in 14 bands, some of them behind multiples of 4096, zones 2 to
// 17, of 1024.
var (
	small = g(2, 6, 16, 3, 2)
	wide  = g(2, 16, 1024, 3, 1)
)

// brokenGeoms are geometries that may not be.
func brokenGeoms() []api.Geom {
	l := []api.Geom{{}, g(1, 8, 16, 3, 2), g(17, 8, 16, 3, 2), g(2, 3, 16, 2, 1), g(2, 8, 7, 3, 2), g(2, 8, 16, 1, 2), g(2, 8, 16, 3, 0), g(2, 8, 16, 3, 7), g(2, 59, 8, 2, 1)}
	for _, x := range []int{math.MinInt, -1, 0, 1 << 20, math.MaxInt} {
		l = append(l, g(x, 8, 16, 3, 2), g(2, x, 16, 3, 2), g(2, 8, x, 3, 2), g(2, 8, 16, x, 2), g(2, 8, 16, 3, x), g(x, x, x, x, x))
	}
	return l
}

// sectorsOf is how many sectors a geometry's device has.
func sectorsOf(x api.Geom) int { return (x.Seq - x.Cache - 1) * (x.Len - 1) }

// unsaid stands in a zone's place, where a map says nothing of a sector.
const unsaid = -1

// where is where a sector lies: its zone may be unsaid, or NoZone.
type where struct{ zone, off int }

// plain is a map as a list of places, one for each sector.
type plain struct {
	geom api.Geom
	l    []where
}

func newPlain(x api.Geom) plain {
	return plain{x, slices.Repeat([]where{{unsaid, 0}}, sectorsOf(x))}
}

func (p plain) clone() plain { return plain{p.geom, slices.Clone(p.l)} }

// has tells whether all sectors of a span are the device's, and it has one.
func (p plain) has(s api.Span) bool {
	return s.At >= 0 && s.At < len(p.l) && s.N > 0 && s.N <= len(p.l)-s.At
}

// set lets sectors lie where x says, one by one; where its zone is unsaid the
// map says nothing of them.
func (p plain) set(x api.Extent) {
	for i := range x.N {
		p.l[x.At+i] = where{x.Zone, x.Off + i}
		if x.Zone == api.NoZone || x.Zone == unsaid {
			p.l[x.At+i].off = 0
		}
	}
}

// put is what Put answers, and what it does.
func (p plain) put(x api.Extent) api.Errno {
	if !p.has(s(x.At, x.N)) {
		return api.ErrRange
	}
	if x.Zone == api.NoZone {
		if x.Off != 0 {
			return api.ErrArg
		}
	} else if x.Zone < p.geom.Conv || x.Zone >= p.geom.Conv+p.geom.Seq || x.Off < 0 || x.Off > p.geom.Len || x.N > p.geom.Len-x.Off {
		return api.ErrArg
	}
	p.set(x)
	return api.OK
}

func (p plain) hole(s api.Span) api.Errno { return p.put(nothing(s.At, s.N)) }

func (p plain) drop(s api.Span) api.Errno {
	if !p.has(s) {
		return api.ErrRange
	}
	p.set(put(s.At, s.N, unsaid, 0))
	return api.OK
}

// goesOn tells whether a sector is of one extent with the one ahead of it.
func (p plain) goesOn(at int) bool {
	if at%4096 == 0 || p.l[at].zone != p.l[at-1].zone {
		return false
	}
	return p.l[at].zone == api.NoZone || p.l[at].off == p.l[at-1].off+1
}

// look is the extents of what the map says of a span, and the gaps.
func (p plain) look(s api.Span) ([]api.Extent, []api.Span) {
	var l []api.Extent
	var gaps []api.Span
	for at := s.At; at < s.At+s.N; at++ {
		w := p.l[at]
		switch {
		case w.zone != unsaid && at > s.At && p.goesOn(at):
			l[len(l)-1].N++
		case w.zone != unsaid:
			l = append(l, put(at, 1, w.zone, w.off))
		case at > s.At && p.l[at-1].zone == unsaid:
			gaps[len(gaps)-1].N++
		default:
			gaps = append(gaps, api.Span{At: at, N: 1})
		}
	}
	return l, gaps
}

func (p plain) extents() []api.Extent {
	l, _ := p.look(s(0, len(p.l)))
	return l
}

// change is what becomes of the map behind a delta that may be.
func (p plain) change(d api.Delta) api.Errno {
	switch d.Kind {
	case api.DeltaPut:
		return p.put(put(d.At, d.N, d.Zone, d.Off))
	case api.DeltaHole:
		return p.hole(s(d.At, d.N))
	case api.DeltaHome:
		band := p.geom.Len - 1
		if d.At >= len(p.l)/band {
			return api.ErrRange
		}
		return p.drop(s(d.At*band, band))
	}
	return api.OK
}

// diff is the deltas of sectors of which other says something else, and whether
// it says something of all of which p does.
func (p plain) diff(other plain) ([]api.Delta, bool) {
	var l []api.Delta
	for at, w := range other.l {
		if p.l[at].zone != unsaid && w.zone == unsaid {
			return nil, false
		}
		if w == p.l[at] {
			continue
		}
		if at > 0 && other.l[at-1] != p.l[at-1] && other.goesOn(at) {
			l[len(l)-1].N++
		} else if w.zone == api.NoZone {
			l = append(l, api.Delta{Kind: api.DeltaHole, At: at, N: 1})
		} else {
			l = append(l, api.Delta{Kind: api.DeltaPut, At: at, N: 1, Zone: w.zone, Off: w.off})
		}
	}
	return l, true
}

// inside is the extents that lie in a zone.
func (p plain) inside(zone int) []api.Extent {
	var l []api.Extent
	for _, x := range p.extents() {
		if x.Zone == zone && zone != api.NoZone {
			l = append(l, x)
		}
	}
	slices.SortFunc(l, func(a, b api.Extent) int {
		return cmp.Or(cmp.Compare(a.Off, b.Off), cmp.Compare(a.At, b.At))
	})
	return l
}

// numbers makes numbers from 0 on, below one that is said: the same ones each time.
func numbers(seed uint64) func(below int) int {
	x := seed*0x9E3779B97F4A7C15 + 1
	return func(below int) int {
		x ^= x << 13
		x ^= x >> 7
		x ^= x << 17
		return int(x>>11) % below
	}
}

// someExtent is an extent that Put takes, of a few places, so that some of them
// touch.
func someExtent(x api.Geom, number func(int) int) api.Extent {
	n := 1 + number(min(9, x.Len-1))
	at := number(sectorsOf(x) - n + 1)
	off := number(x.Len - n + 1)
	if number(2) == 0 {
		off = at % (x.Len - n + 1)
	}
	return put(at, n, x.Conv+number(min(3, x.Seq)), off)
}

// someSpan is a span of the device, mostly a short one.
func someSpan(x api.Geom, number func(int) int) api.Span {
	n := 1 + number(10)
	if number(8) == 0 {
		n = 1 + number(sectorsOf(x))
	}
	return s(number(sectorsOf(x)-n+1), n)
}

// step does one thing with a map and a plain one.
func step(t *testing.T, m *extmap.Map, p plain, number func(int) int) {
	t.Helper()
	var got, want api.Errno
	switch x := someSpan(p.geom, number); number(6) {
	case 0:
		got, want = m.Hole(x), p.hole(x)
	case 1:
		got, want = m.Drop(x), p.drop(x)
	default:
		y := someExtent(p.geom, number)
		got, want = m.Put(y), p.put(y)
	}
	if got != want || got != api.OK {
		t.Fatalf("%d, not %d", got, want)
	}
}

// made are a map and a plain one that say something, after some steps.
func made(t *testing.T, x api.Geom, seed uint64, steps int) (*extmap.Map, plain) {
	t.Helper()
	m, e := extmap.New(x)
	if e != api.OK {
		t.Fatal(e)
	}
	p, number := newPlain(x), numbers(seed)
	for range steps {
		step(t, m, p, number)
	}
	return m, p
}

// wantMap wants that a map says what a plain one says, whatever it is asked.
func wantMap(t *testing.T, what string, m *extmap.Map, p plain) {
	t.Helper()
	want := p.extents()
	got := m.Extents()
	if !slices.Equal(got, want) || m.Len() != len(want) || !slices.Equal(slices.Collect(m.All()), want) {
		t.Fatalf("%s: %v, not %v", what, got, want)
	}
	said := 0
	for at, w := range p.l {
		zone, off, ok := m.At(at)
		if w.zone == unsaid {
			w = where{}
		} else {
			said++
		}
		if zone != w.zone || off != w.off || ok != (p.l[at].zone != unsaid) {
			t.Fatalf("%s: sector %d is at %d %d %t, not %v", what, at, zone, off, ok, w)
		}
	}
	if m.Sectors() != said {
		t.Fatalf("%s: %d sectors, not %d", what, m.Sectors(), said)
	}
	var zones []int
	for zone := range 300 {
		l := p.inside(zone)
		if len(l) > 0 {
			zones = append(zones, zone)
		}
		if got := m.Inside(zone); !slices.Equal(got, l) {
			t.Fatalf("%s: in zone %d: %v, not %v", what, zone, got, l)
		}
	}
	if got := m.Zones(); !slices.Equal(got, zones) {
		t.Fatalf("%s: zones %v, not %v", what, got, zones)
	}
}

// wantLook wants that Look tells of a span what a plain map tells.
func wantLook(t *testing.T, m *extmap.Map, p plain, x api.Span) {
	t.Helper()
	l, gaps, e := m.Look(x)
	wantL, wantGaps := p.look(x)
	if e != api.OK || !slices.Equal(l, wantL) || !slices.Equal(gaps, wantGaps) {
		t.Fatalf("%v: %v %v %d, not %v %v", x, l, gaps, e, wantL, wantGaps)
	}
}

// TestPlain: the tests' own geometries are what their remarks say.
func TestPlain(t *testing.T) {
	for _, x := range []api.Geom{small, wide} {
		if l, e := geom.Layout(x); e != api.OK || l.Sectors != sectorsOf(x) || l.BandLen != x.Len-1 {
			t.Error(x, l, e)
		}
	}
}
