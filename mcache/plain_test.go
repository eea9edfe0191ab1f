package mcache_test

import (
	"bytes"
	"cmp"
	"slices"
	"testing"

	"thatch/api"
	"thatch/batch"
	"thatch/geom"
	"thatch/mcache"
	"thatch/pool"
	"thatch/zdisk"
)

// top is the greatest number of a batch.
const top = 1 << 40

// small has sequential zones 2 to 6 of 12 sectors, of which two are the cache's;
// its device has 22 sectors, of which 8 are written at once. narrow has zones 2
// to 5 of 8 sectors, of which one is the cache's, and 6 are written at once.
var (
	small  = api.Geom{Conv: 2, Seq: 5, Len: 12, Limit: 2, Cache: 2}
	narrow = api.Geom{Conv: 2, Seq: 4, Len: 8, Limit: 2, Cache: 1}
	wide   = api.Geom{Conv: 3, Seq: 9, Len: 10, Limit: 3, Cache: 6}
)

func s(at, n int) api.Span { return api.Span{At: at, N: n} }

// kit is a cache, and what it shares with whoever made it.
type kit struct {
	t     *testing.T
	geom  api.Geom
	disk  *zdisk.Disk
	pool  *pool.Pool
	cache *mcache.Cache
}

func must(t *testing.T, l ...api.Errno) {
	t.Helper()
	for i, e := range l {
		if e != api.OK {
			t.Fatal(i, e)
		}
	}
}

// newKit is a cache of which nothing is written, with that last number.
func newKit(t *testing.T, g api.Geom, last int) *kit {
	t.Helper()
	d, e := zdisk.New(geom.Shape(g))
	must(t, e)
	p, e := pool.New(g)
	must(t, e)
	c, e := mcache.New(d, g, p, last, nil)
	must(t, e)
	return &kit{t, g, d, p, c}
}

// some is n sectors, all bytes of which are other ones than their neighbours.
func some(n, seed int) []byte {
	b := make([]byte, n*128)
	for i := range b {
		b[i] = byte(i*7 + i/128*3 + seed)
	}
	return b
}

// sectors is what stands in a zone of a batch.
func sectors(t *testing.T, g api.Geom, b api.Batch, data []byte) []byte {
	t.Helper()
	l, e := batch.Encode(g, b, data)
	must(t, e)
	return l
}

func dataBatch(seq int, l ...api.Span) api.Batch {
	return api.Batch{Seq: seq, Kind: api.BatchData, Spans: l}
}

func holeBatch(seq int, l ...api.Span) api.Batch {
	return api.Batch{Seq: seq, Kind: api.BatchHole, Spans: l}
}

func put(at, n, zone, off int) api.Delta {
	return api.Delta{Kind: api.DeltaPut, At: at, N: n, Zone: zone, Off: off}
}

func hole(at, n int) api.Delta { return api.Delta{Kind: api.DeltaHole, At: at, N: n} }

// write writes, and wants deltas, or an error.
func (k *kit) write(at, n int, want api.Errno, deltas ...api.Delta) {
	k.t.Helper()
	l, e := k.cache.Write(s(at, n), some(n, at))
	if e != want || !slices.Equal(l, deltas) {
		k.t.Errorf("Write %d, %d: %v %d, not %v %d", at, n, l, e, deltas, want)
	}
}

// trim trims, and wants deltas, or an error.
func (k *kit) trim(l []api.Span, want api.Errno, deltas ...api.Delta) {
	k.t.Helper()
	got, e := k.cache.Trim(l)
	if e != want || !slices.Equal(got, deltas) {
		k.t.Errorf("Trim %v: %v %d, not %v %d", l, got, e, deltas, want)
	}
}

// is wants what the cache says of itself.
func (k *kit) is(last, active int, order ...int) {
	k.t.Helper()
	c := k.cache
	if c.Last() != last || c.Active() != active || !slices.Equal(c.Order(), order) {
		k.t.Errorf("last %d, active %d, order %v; not %d, %d, %v", c.Last(), c.Active(), c.Order(), last, active, order)
	}
}

// roles wants the roles of all zones.
func (k *kit) roles(want ...int) {
	k.t.Helper()
	if got := k.pool.Roles(); !slices.Equal(got, want) {
		k.t.Errorf("roles %v, not %v", got, want)
	}
}

// cmd is a command as the tests want it: kind, zone, where in the zone, how many
// sectors, and what was answered.
type cmd struct {
	kind, zone, at, n int
	code              api.Errno
}

func (k *kit) given() []cmd {
	var l []cmd
	for c := range k.disk.Cmds() {
		at := c.At
		if c.Kind == api.CmdRead || c.Kind == api.CmdWrite {
			at -= c.Zone * k.geom.Len
		}
		l = append(l, cmd{c.Kind, c.Zone, at, c.N, c.Code})
	}
	return l
}

// gives wants that just these commands are given by what is done.
func (k *kit) gives(do func(), want ...cmd) {
	k.t.Helper()
	from := len(k.given())
	do()
	if got := k.given()[from:]; !slices.Equal(got, want) {
		k.t.Errorf("commands %v, not %v", got, want)
	}
}

// stands is what is written of a zone.
func (k *kit) stands(zone int) []byte {
	k.t.Helper()
	d := k.disk.Fork()
	z, e := d.Zone(zone)
	must(k.t, e)
	if z.Written == 0 || z.State == api.ZoneOffline {
		return nil
	}
	b, e := d.Read(z.Start, z.Written)
	must(k.t, e)
	return b
}

// standsJust wants that just these sectors are written of a zone.
func (k *kit) standsJust(zone int, l ...[]byte) {
	k.t.Helper()
	if got := k.stands(zone); !bytes.Equal(got, bytes.Join(l, nil)) {
		k.t.Errorf("zone %d: %d bytes, others than wanted", zone, len(got))
	}
}

// isSame tells whether two batches are the same, as the tests see it.
func isSame(a, b api.Batch) bool {
	return a.Seq == b.Seq && a.Kind == b.Kind && slices.Equal(a.Spans, b.Spans)
}

// batches is what stands in the zones that are the cache's, by numbers.
func (k *kit) batches() []api.Batch {
	k.t.Helper()
	var l []api.Batch
	for zone := k.geom.Conv; zone < k.geom.Conv+k.geom.Seq; zone++ {
		if role := k.pool.Role(zone); role != api.RoleActive && role != api.RoleSealed {
			continue
		}
		for _, b := range batch.Scan(k.geom, k.stands(zone)) {
			l = append(l, b)
		}
	}
	slices.SortFunc(l, func(a, b api.Batch) int { return cmp.Compare(a.Seq, b.Seq) })
	return l
}

// numbers are numbers that look like chance, the same ones each time.
func numbers(seed uint64) func(below int) int {
	x := seed*0x9E3779B97F4A7C15 + 1
	return func(below int) int {
		x ^= x << 13
		x ^= x >> 7
		x ^= x << 17
		return int(x>>11) % below
	}
}

// plain is a cache as the chapter tells of it, with a disk of its own, of which
// it knows but what is written, and what refuses to be.
type plain struct {
	geom    api.Geom
	roles   []int
	content [][]byte // of each sequential zone
	full    []int    // 1, where it can not be written any more, as it was finished
	hurt    []int    // 1, where it is read-only
	fails   int      // so many writes fail
	last    int
	active  int // the place of the active zone; -1
	order   []int
}

func newPlain(g api.Geom, last int) *plain {
	return &plain{geom: g, roles: make([]int, g.Seq), content: make([][]byte, g.Seq), full: make([]int, g.Seq), hurt: make([]int, g.Seq), last: last, active: -1}
}

func (p *plain) count(role int) int {
	n := 0
	for _, r := range p.roles {
		if r == role {
			n++
		}
	}
	return n
}

func (p *plain) left(i int) int { return p.geom.Len - len(p.content[i])/128 }

// putBy puts the active zone by; dead tells that a write to it was refused.
func (p *plain) putBy(dead bool) bool {
	if p.active < 0 {
		return false
	}
	if !dead && p.hurt[p.active] == 0 {
		p.full[p.active] = 1
	}
	p.roles[p.active] = api.RoleSealed
	p.order = append(p.order, p.geom.Conv+p.active)
	p.active = -1
	return true
}

// room is ErrBusy, or there is an active zone with n sectors left.
func (p *plain) room(n int) api.Errno {
	if p.active >= 0 && p.left(p.active) >= n {
		return api.OK
	}
	p.putBy(false)
	for {
		if p.count(api.RoleActive)+p.count(api.RoleSealed) >= p.geom.Cache || p.count(api.RoleFree) < 2 {
			return api.ErrBusy
		}
		i := slices.Index(p.roles, api.RoleFree)
		if p.hurt[i] == 0 && p.full[i] == 0 && p.left(i) >= n {
			p.roles[i], p.active = api.RoleActive, i
			return api.OK
		}
		p.roles[i] = api.RoleBad
	}
}

// append puts sectors into a zone: the zone, and where.
func (p *plain) append(b []byte) (int, int, api.Errno) {
	for range 2 {
		if e := p.room(len(b) / 128); e != api.OK {
			return 0, 0, e
		}
		i := p.active
		if p.hurt[i] == 0 && p.fails == 0 {
			off := len(p.content[i]) / 128
			p.content[i] = append(p.content[i], b...)
			return p.geom.Conv + i, off, api.OK
		}
		if p.hurt[i] == 0 {
			p.fails--
		}
		p.putBy(true)
	}
	return 0, 0, api.ErrIO
}

func (p *plain) free(zone int) api.Errno {
	i := zone - p.geom.Conv
	if i < 0 || i >= p.geom.Seq || p.roles[i] != api.RoleSealed {
		return api.ErrRole
	}
	at := slices.Index(p.order, zone)
	p.order = slices.Concat(p.order[:at], p.order[at+1:])
	if p.hurt[i] > 0 {
		p.roles[i] = api.RoleBad
		return api.ErrState
	}
	p.roles[i], p.content[i], p.full[i] = api.RoleFree, nil, 0
	return api.OK
}

// fits is what would have room, where each zone that is taken is as good as new.
func (p *plain) fits(l []int) bool {
	left := 0
	if p.active >= 0 {
		left = p.left(p.active)
	}
	cached, free := p.count(api.RoleActive)+p.count(api.RoleSealed), p.count(api.RoleFree)
	for _, n := range l {
		if n < 1 || n > p.geom.Len {
			return false
		}
		if n > left {
			if cached >= p.geom.Cache || free < 2 {
				return false
			}
			cached, free, left = cached+1, free-1, p.geom.Len
		}
		left -= n
	}
	return true
}
