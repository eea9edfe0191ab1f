package mount_test

import (
	"cmp"
	"math"
	"slices"
	"testing"

	"thatch/api"
	"thatch/batch"
	"thatch/geom"
	"thatch/meta"
	"thatch/mount"
	"thatch/zdisk"
)

func g(conv, seq, length, limit, cache int) api.Geom {
	return api.Geom{Conv: conv, Seq: seq, Len: length, Limit: limit, Cache: cache}
}

// small has 33 logical sectors in 3 bands of 11, and 27 extents; its sequential
// zones are 2 to 7, of 12 sectors, of which 2 are the cache's; its slots have 5
// sectors, its ring 12. narrow has 14 in 2 bands of 7, 15 extents, zones 2 to 5,
// of 8, of which 1 is the cache's. wide has 36 in 4 bands of 9, 38 extents, zones
// 3 to 11, of 10, of which 4 are the cache's. crowded has 98 in 14 bands of 7,
// but 13 extents; zones 2 to 21, of 8, of which 5 are the cache's.
var (
	small   = g(2, 6, 12, 2, 2)
	narrow  = g(2, 4, 8, 2, 1)
	wide    = g(3, 9, 10, 3, 4)
	crowded = g(2, 20, 8, 2, 5)
)

// TestPlain: the tests' own geometries are what their remark says.
func TestPlain(t *testing.T) {
	for _, x := range []struct {
		g                          api.Geom
		sectors, bands, long, most int
	}{{small, 33, 3, 11, 27}, {narrow, 14, 2, 7, 15}, {wide, 36, 4, 9, 38}, {crowded, 98, 14, 7, 13}} {
		if l, e := geom.Layout(x.g); e != api.OK || l.Sectors != x.sectors || l.Bands != x.bands || l.BandLen != x.long || l.Extents != x.most {
			t.Error(x, l, e)
		}
	}
}

// brokenGeoms are geometries that may not be.
func brokenGeoms() []api.Geom {
	l := []api.Geom{{}, g(1, 6, 12, 2, 2), g(17, 6, 12, 2, 2), g(2, 3, 12, 2, 1), g(2, 6, 7, 2, 2), g(2, 6, 12, 1, 2), g(2, 6, 12, 2, 0), g(2, 6, 12, 2, 5), g(2, 59, 8, 2, 1)}
	for _, n := range []int{math.MinInt, -1, math.MaxInt} {
		l = append(l, g(n, 6, 12, 2, 2), g(2, n, 12, 2, 2), g(2, 6, n, 2, 2), g(2, 6, 12, n, 2), g(2, 6, 12, 2, n))
	}
	return l
}

// numbers makes numbers from 0 on, below one that is said: the same ones each time.
func numbers(seed uint64) func(below int) int {
	x := seed*0x9E3779B97F4A7C15 + 1
	return func(below int) int {
		x ^= x << 13
		x ^= x >> 7
		x ^= x << 17
		return int(x>>11) % below
	}
}

func must(t *testing.T, l ...api.Errno) {
	t.Helper()
	for i, e := range l {
		if e != api.OK {
			t.Fatal(i, e)
		}
	}
}

// formatted is a disk of a geometry on which there is an empty device.
func formatted(t *testing.T, x api.Geom) *zdisk.Disk {
	t.Helper()
	d, e := zdisk.New(geom.Shape(x))
	must(t, e, meta.Format(d, x))
	return d
}

// held is a disk of a geometry, of which a state is what lasts.
func held(t *testing.T, x api.Geom, s api.State) *zdisk.Disk {
	t.Helper()
	d := formatted(t, x)
	m, _, e := meta.Load(d)
	must(t, e, m.Checkpoint(s, false))
	return d
}

func open(t *testing.T, d *zdisk.Disk) *mount.Mounted {
	t.Helper()
	m, e := mount.Open(d)
	must(t, e)
	return m
}

// some is n sectors, all bytes of which are other ones than their neighbours.
func some(n, seed int) []byte {
	b := make([]byte, n*128)
	for i := range b {
		b[i] = byte(i*7 + i/128*3 + seed)
	}
	return b
}

func s(at, n int) api.Span { return api.Span{At: at, N: n} }

func data(seq int, l ...api.Span) api.Batch {
	return api.Batch{Seq: seq, Kind: api.BatchData, Spans: l}
}

func holes(seq int, l ...api.Span) api.Batch {
	return api.Batch{Seq: seq, Kind: api.BatchHole, Spans: l}
}

func at(zone, off int, b api.Batch) api.Stood {
	return api.Stood{Zone: zone, Off: off, Batch: b}
}

func extent(at, n, zone, off int) api.Extent {
	return api.Extent{At: at, N: n, Zone: zone, Off: off}
}

// sectors is what stands in a zone of a batch.
func sectors(t *testing.T, x api.Geom, b api.Batch) []byte {
	t.Helper()
	n := 0
	if b.Kind == api.BatchData {
		for _, s := range b.Spans {
			n += s.N
		}
	}
	l, e := batch.Encode(x, b, some(n, b.Seq))
	must(t, e)
	return l
}

// lay writes behind what is written of a zone.
func lay(t *testing.T, d *zdisk.Disk, zone int, l ...[]byte) {
	t.Helper()
	for _, b := range l {
		z, e := d.Zone(zone)
		must(t, e, d.Write(z.Start+z.Written, b))
	}
}

// empty is the empty state of a geometry.
func empty(x api.Geom) api.State {
	s := api.State{Bad: make([]bool, x.Seq)}
	for range x.Seq - x.Cache - 1 {
		s.Homes = append(s.Homes, 255)
	}
	return s
}

func same(a, b api.State) bool {
	return a.Upto == b.Upto && slices.Equal(a.Homes, b.Homes) && slices.Equal(a.Bad, b.Bad) && slices.Equal(a.Extents, b.Extents)
}

// sameMap tells whether two states are the same, as far as the map goes.
func sameMap(a, b api.State) bool {
	return slices.Equal(a.Homes, b.Homes) && slices.Equal(a.Extents, b.Extents)
}

func none(s api.State) bool {
	return s.Upto == 0 && len(s.Homes) == 0 && len(s.Bad) == 0 && len(s.Extents) == 0
}

func sameStood(a, b api.Stood) bool {
	return a.Zone == b.Zone && a.Off == b.Off && a.Batch.Seq == b.Batch.Seq && a.Batch.Kind == b.Batch.Kind && slices.Equal(a.Batch.Spans, b.Batch.Spans)
}

// where is where a logical sector lies: zone 0, where nothing is said of it.
type where struct{ zone, off int }

// places are where a state's sectors lie, one by one.
func places(x api.Geom, s api.State) []where {
	l := make([]where, len(s.Homes)*(x.Len-1))
	for _, e := range s.Extents {
		set(l, e)
	}
	return l
}

func set(l []where, e api.Extent) {
	for i := range e.N {
		l[e.At+i] = where{e.Zone, e.Off + i}
		if e.Zone == 255 {
			l[e.At+i].off = 0
		}
	}
}

// extents are the fewest that say where sectors lie.
func extents(l []where) []api.Extent {
	var all []api.Extent
	ahead := where{}
	for at, w := range l {
		goesOn := ahead.zone == w.zone && (w.zone == 255 || ahead.off+1 == w.off)
		if w.zone != 0 && goesOn {
			all[len(all)-1].N++
		} else if w.zone != 0 {
			all = append(all, extent(at, 1, w.zone, w.off))
		}
		ahead = w
	}
	return all
}

// rolled is a state behind the batches that stand, one by one: always the one
// with the least number above those ahead, the first one of equal ones.
func rolled(x api.Geom, was api.State, l []api.Stood) api.State {
	s := api.State{Upto: was.Upto, Homes: slices.Clone(was.Homes), Bad: slices.Clone(was.Bad), Extents: slices.Clone(was.Extents)}
	sectors := places(x, s)
	for {
		least := -1
		for _, c := range l {
			if c.Batch.Seq > s.Upto && (least < 0 || c.Batch.Seq < least) {
				least = c.Batch.Seq
			}
		}
		if least < 0 {
			return s
		}
		for _, c := range l {
			off := c.Off + 1
			for _, part := range c.Batch.Spans {
				if c.Batch.Seq == least && c.Batch.Kind == api.BatchData {
					set(sectors, extent(part.At, part.N, c.Zone, off))
					off += part.N
				} else if c.Batch.Seq == least {
					set(sectors, extent(part.At, part.N, 255, 0))
				}
			}
		}
		s.Upto, s.Extents = least, extents(sectors)
	}
}

// roles are what zones are for, and the order and the waste, zone by zone.
func roles(x api.Geom, s api.State, zones []api.Zone, l []api.Stood) (roles, order, waste []int) {
	var least []int
	for i := range x.Seq {
		zone := x.Conv + i
		lies, newer, number, is := false, false, 0, false
		for _, e := range s.Extents {
			lies = lies || e.Zone == zone
		}
		for _, c := range l {
			if c.Zone != zone {
				continue
			}
			newer = newer || c.Batch.Seq > s.Upto
			if !is || c.Batch.Seq < number {
				number = c.Batch.Seq
			}
			is = true
		}
		hurt := zones[i].State == api.ZoneReadOnly || zones[i].State == api.ZoneOffline
		switch {
		case s.Bad[i]:
			roles = append(roles, api.RoleBad)
		case slices.Contains(s.Homes, zone):
			roles = append(roles, api.RoleHome)
		case lies || newer:
			roles = append(roles, api.RoleSealed)
			order = append(order, zone)
			least = append(least, number)
		case hurt:
			roles = append(roles, api.RoleBad)
		default:
			roles = append(roles, api.RoleFree)
			if zones[i].State != api.ZoneEmpty {
				waste = append(waste, zone)
			}
		}
	}
	// The order, by numbers, and then by zones: each one goes ahead of those that
	// come behind it.
	for i := range order {
		for k := i; k > 0; k-- {
			if cmp.Or(cmp.Compare(least[k], least[k-1]), cmp.Compare(order[k], order[k-1])) < 0 {
				least[k], least[k-1] = least[k-1], least[k]
				order[k], order[k-1] = order[k-1], order[k]
			}
		}
	}
	return roles, order, waste
}

// someBatch is any batch of a geometry.
func someBatch(x api.Geom, seq int, number func(int) int) api.Batch {
	long := (x.Seq - x.Cache - 1) * (x.Len - 1)
	b := api.Batch{Seq: seq, Kind: 1 + number(2)}
	left := min(8, x.Len-2)
	from := number(long / 2)
	for range 1 + number(3) {
		n := 1 + number(4)
		if b.Kind == api.BatchHole {
			n = 1 + number(12)
		} else {
			n = min(n, left)
		}
		n = min(n, long-from)
		if n < 1 {
			break
		}
		b.Spans = append(b.Spans, s(from, n))
		from += n + number(4)
		left -= n
	}
	return b
}

// someState is any state of a geometry, some of which have extents that might be
// joined.
func someState(x api.Geom, number func(int) int) api.State {
	state := empty(x)
	state.Upto = number(20)
	for i := range state.Homes {
		if number(2) == 0 {
			state.Homes[i] = x.Conv + number(x.Seq)
		}
	}
	for i := range state.Bad {
		state.Bad[i] = number(6) == 0
	}
	sectors := places(x, state)
	from := number(6)
	for from < len(sectors) && len(state.Extents) < 12 {
		n := 1 + number(min(6, len(sectors)-from))
		zone, off := x.Conv+number(x.Seq), number(x.Len-n+1)
		if number(4) == 0 {
			zone, off = 255, 0
		}
		state.Extents = append(state.Extents, extent(from, n, zone, off))
		from += n + number(5)
	}
	return state
}
