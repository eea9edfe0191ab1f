package meta_test

import (
	"bytes"
	"math"
	"slices"
	"testing"

	"thatch/api"
	"thatch/geom"
	"thatch/meta"
	"thatch/page"
	"thatch/record"
	"thatch/super"
	"thatch/zdisk"
)

func g(conv, seq, length, limit, cache int) api.Geom {
	return api.Geom{Conv: conv, Seq: seq, Len: length, Limit: limit, Cache: cache}
}

// small has slots of 7 sectors from 2 and 9 on, a ring of 16 from 16 on, 39
// extents, and 30 logical sectors in 2 bands; its sequential zones are 2 to 6, of
// 16 sectors. narrow has slots of 3, a ring of 8 from 8 on, 15 extents, 14
// sectors in 2 bands; zones 2 to 5, of 8. odd has slots of 8, a ring of 18 from
// 18 on, 44 extents, 44 sectors in 4 bands; zones 3 to 11, of 12.
var (
	small  = g(2, 5, 16, 2, 2)
	narrow = g(2, 4, 8, 2, 1)
	odd    = g(3, 9, 12, 3, 4)
)

// layouts is where each part of these geometries begins, as the remark says.
var layouts = []struct {
	g                                   api.Geom
	slot, ring, long, bands, most, zone int
}{
	{small, 7, 16, 16, 2, 39, 2},
	{narrow, 3, 8, 8, 2, 15, 2},
	{odd, 8, 18, 18, 4, 44, 3},
}

// TestPlain: the tests' own geometries are what their remark says.
func TestPlain(t *testing.T) {
	for _, x := range layouts {
		l, e := geom.Layout(x.g)
		if e != api.OK || l.Slot != x.slot || l.Ring != x.ring || l.RingLen != x.long || l.Bands != x.bands || l.Extents != x.most || x.g.Conv != x.zone {
			t.Error(x, l, e)
		}
	}
}

// brokenGeoms are geometries that may not be.
func brokenGeoms() []api.Geom {
	l := []api.Geom{{}, g(1, 5, 16, 2, 2), g(17, 5, 16, 2, 2), g(2, 3, 16, 2, 1), g(2, 5, 7, 2, 2), g(2, 5, 16, 1, 2), g(2, 5, 16, 2, 0), g(2, 5, 16, 2, 4), g(2, 59, 8, 2, 1)}
	for _, n := range []int{math.MinInt, -1, math.MaxInt} {
		l = append(l, g(n, 5, 16, 2, 2), g(2, n, 16, 2, 2), g(2, 5, n, 2, 2), g(2, 5, 16, n, 2), g(2, 5, 16, 2, n))
	}
	return l
}

// numbers makes numbers from 0 on, below one that is said: the same ones each time.
func numbers(seed uint64) func(below int) int {
	x := seed*0x9E3779B97F4A7C15 + 1
	return func(below int) int {
		x ^= x << 13
		x ^= x >> 7
		x ^= x << 17
		return int(x>>11) % below
	}
}

func must(t *testing.T, l ...api.Errno) {
	t.Helper()
	for i, e := range l {
		if e != api.OK {
			t.Fatal(i, e)
		}
	}
}

func newDisk(t *testing.T, x api.Shape) *zdisk.Disk {
	t.Helper()
	d, e := zdisk.New(x)
	must(t, e)
	return d
}

// formatted is a disk of a geometry on which there is an empty device.
func formatted(t *testing.T, x api.Geom) *zdisk.Disk {
	t.Helper()
	d := newDisk(t, geom.Shape(x))
	must(t, meta.Format(d, x))
	return d
}

func load(t *testing.T, d *zdisk.Disk) (*meta.Meta, api.State) {
	t.Helper()
	m, s, e := meta.Load(d)
	must(t, e)
	return m, s
}

// begun is a disk of a geometry, and a meta that has a ring.
func begun(t *testing.T, x api.Geom) (*zdisk.Disk, *meta.Meta, api.State) {
	t.Helper()
	d := formatted(t, x)
	m, s := load(t, d)
	must(t, m.Checkpoint(s, false))
	return d, m, s
}

// cmd is a command as the tests want it: kind, zone (-1 of a flush), first sector
// and how many of those of reads and writes, and what was answered.
type cmd struct {
	kind, zone, at, n int
	code              api.Errno
}

func given(d *zdisk.Disk) []cmd {
	var l []cmd
	for c := range d.Cmds() {
		l = append(l, cmd{c.Kind, c.Zone, c.At, c.N, c.Code})
	}
	return l
}

// gives wants that just these commands are given by what is done.
func gives(t *testing.T, what string, d *zdisk.Disk, do func(), want ...cmd) {
	t.Helper()
	from := len(given(d))
	do()
	if got := given(d)[from:]; !slices.Equal(got, want) {
		t.Errorf("%s: commands %v, not %v", what, got, want)
	}
}

// writes are the writes of so many conventional sectors, one by one.
func writes(x api.Geom, at, n int) []cmd {
	var l []cmd
	for i := range n {
		l = append(l, cmd{api.CmdWrite, (at + i) / x.Len, at + i, 1, api.OK})
	}
	return l
}

func flush() cmd { return cmd{kind: api.CmdFlush, zone: -1} }

// checkpointCmds are the commands of a checkpoint of so many pages.
func checkpointCmds(x api.Geom, generation, slot, pages int) []cmd {
	at := 2
	if slot == 1 {
		at += (x.Conv*x.Len - 2) / 4
	}
	l := append(writes(x, at, pages), flush())
	return append(append(l, writes(x, generation%2, 1)...), flush())
}

// conv is what stands in the conventional sectors of a disk.
func conv(t *testing.T, d *zdisk.Disk) [][]byte {
	t.Helper()
	f := d.Fork()
	s := f.Shape()
	var l [][]byte
	for at := range s.Conv * s.Len {
		b, e := f.Read(at, 1)
		must(t, e)
		l = append(l, b)
	}
	return l
}

// standsJust wants that just these sectors stand in the conventional zones.
func standsJust(t *testing.T, what string, d *zdisk.Disk, want [][]byte) {
	t.Helper()
	for at, b := range conv(t, d) {
		if !bytes.Equal(b, want[at]) {
			t.Errorf("%s: sector %d is another one", what, at)
		}
	}
}

// blanks are the conventional sectors of a geometry, with bytes 0.
func blanks(x api.Geom) [][]byte {
	var l [][]byte
	for range x.Conv * x.Len {
		l = append(l, make([]byte, 128))
	}
	return l
}

// lay puts a checkpoint among the conventional sectors.
func lay(t *testing.T, l [][]byte, b api.Super, s api.State) {
	t.Helper()
	sector, e := super.Encode(b)
	must(t, e)
	l[b.Generation%2] = sector
	pages, e := page.Encode(b.Geom, b.Generation, s)
	must(t, e)
	at := 2 + b.Slot*((b.Geom.Conv*b.Geom.Len-2)/4)
	copy(l[at:], pages)
}

// layGroup puts a group of records among the conventional sectors.
func layGroup(t *testing.T, l [][]byte, x api.Geom, deltas []api.Delta, epoch, seq, upto int) {
	t.Helper()
	group, e := record.Group(deltas, epoch, seq, upto)
	must(t, e)
	for _, r := range group {
		sector, e := record.Encode(r)
		must(t, e)
		l[geom.RingAt(x, r.Seq)] = sector
	}
}

// laid is a disk of a geometry's shape with these conventional sectors.
func laid(t *testing.T, x api.Geom, l [][]byte) *zdisk.Disk {
	t.Helper()
	d := newDisk(t, geom.Shape(x))
	for at, b := range l {
		must(t, d.Write(at, b))
	}
	must(t, d.Flush())
	return d
}

// empty is the empty state of a geometry.
func empty(x api.Geom) api.State {
	s := api.State{Bad: make([]bool, x.Seq)}
	for range x.Seq - x.Cache - 1 {
		s.Homes = append(s.Homes, 255)
	}
	return s
}

// same tells whether two states are the same.
func same(a, b api.State) bool {
	return a.Upto == b.Upto && slices.Equal(a.Homes, b.Homes) && slices.Equal(a.Bad, b.Bad) && slices.Equal(a.Extents, b.Extents)
}

// none tells whether a state is {}.
func none(s api.State) bool {
	return s.Upto == 0 && len(s.Homes) == 0 && len(s.Bad) == 0 && len(s.Extents) == 0
}

// where is where a logical sector lies: zone 0, where nothing is said of it.
type where struct{ zone, off int }

// plain is a state as a list of places, one for each sector.
type plain struct {
	geom  api.Geom
	upto  int
	homes []int
	bad   []bool
	l     []where
}

func newPlain(x api.Geom) *plain {
	s := empty(x)
	return &plain{geom: x, homes: s.Homes, bad: s.Bad, l: make([]where, len(s.Homes)*(x.Len-1))}
}

func (p *plain) clone() *plain {
	return &plain{p.geom, p.upto, slices.Clone(p.homes), slices.Clone(p.bad), slices.Clone(p.l)}
}

// change is what becomes of the state behind a delta that may go behind it.
func (p *plain) change(d api.Delta) {
	long := p.geom.Len - 1
	switch d.Kind {
	case api.DeltaPut:
		for i := range d.N {
			p.l[d.At+i] = where{d.Zone, d.Off + i}
		}
	case api.DeltaHole:
		for i := range d.N {
			p.l[d.At+i] = where{255, 0}
		}
	case api.DeltaHome:
		p.homes[d.At] = d.Zone
		clear(p.l[d.At*long : (d.At+1)*long])
	case api.DeltaBad:
		p.bad[d.Zone-p.geom.Conv] = true
	}
}

// state is the state, with the fewest extents.
func (p *plain) state() api.State {
	s := api.State{Upto: p.upto, Homes: slices.Clone(p.homes), Bad: slices.Clone(p.bad)}
	ahead := where{}
	for at, w := range p.l {
		goesOn := ahead.zone == w.zone && (w.zone == 255 || ahead.off+1 == w.off)
		if w.zone != 0 && goesOn {
			s.Extents[len(s.Extents)-1].N++
		} else if w.zone != 0 {
			s.Extents = append(s.Extents, api.Extent{At: at, N: 1, Zone: w.zone, Off: w.off})
		}
		ahead = w
	}
	return s
}

func put(at, n, zone, off int) api.Delta {
	return api.Delta{Kind: api.DeltaPut, At: at, N: n, Zone: zone, Off: off}
}

func hole(at, n int) api.Delta { return api.Delta{Kind: api.DeltaHole, At: at, N: n} }

func home(band, zone int) api.Delta {
	return api.Delta{Kind: api.DeltaHome, At: band, Zone: zone}
}

func bad(zone int) api.Delta { return api.Delta{Kind: api.DeltaBad, Zone: zone} }

func extent(at, n, zone, off int) api.Extent {
	return api.Extent{At: at, N: n, Zone: zone, Off: off}
}

// someDelta is a delta that may go behind any state.
func someDelta(x api.Geom, number func(int) int) api.Delta {
	bands := x.Seq - x.Cache - 1
	long := bands * (x.Len - 1)
	n := 1 + number(min(6, x.Len-1))
	at := number(long - n + 1)
	zone := x.Conv + number(x.Seq)
	switch number(9) {
	case 0, 1:
		return hole(at, n)
	case 2:
		if number(3) == 0 {
			zone = 255
		}
		return home(number(bands), zone)
	case 3:
		return bad(zone)
	}
	return put(at, n, zone, number(x.Len-n+1))
}
