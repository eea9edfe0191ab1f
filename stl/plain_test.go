package stl_test

import (
	"bytes"
	"math"
	"slices"
	"testing"

	"thatch/api"
	"thatch/geom"
	"thatch/meta"
	"thatch/stl"
	"thatch/zdisk"
)

func g(conv, seq, length, limit, cache int) api.Geom {
	return api.Geom{Conv: conv, Seq: seq, Len: length, Limit: limit, Cache: cache}
}

// small has 33 logical sectors in 3 bands of 11, and 27 extents; its sequential
// zones are 2 to 7, of 12 sectors, of which 2 are the cache's; 8 sectors are
// written at once. narrow has 14 in 2 bands of 7, 15 extents, zones 2 to 5, of 8,
// of which 1 is the cache's; 6 at once. wide has 36 in 4 bands of 9, 38 extents,
// zones 3 to 11, of 10, of which 4 are the cache's; 8 at once. crowded has 98 in
// 14 bands of 7, but 13 extents; zones 2 to 21, of 8, of which 5 are the cache's;
// 6 at once. big has 5110 in 10 bands of 511; zones 2 to 13, of 512, of which 1 is
// the cache's.
var (
	small   = g(2, 6, 12, 2, 2)
	narrow  = g(2, 4, 8, 2, 1)
	wide    = g(3, 9, 10, 3, 4)
	crowded = g(2, 20, 8, 2, 5)
	big     = g(2, 12, 512, 2, 1)
)

// TestPlain: the tests' own geometries are what their remark says.
func TestPlain(t *testing.T) {
	for _, x := range []struct {
		g                               api.Geom
		sectors, bands, long, most, run int
	}{{small, 33, 3, 11, 27, 8}, {narrow, 14, 2, 7, 15, 6}, {wide, 36, 4, 9, 38, 8}, {crowded, 98, 14, 7, 13, 6}, {big, 5110, 10, 511, 1526, 8}} {
		if l := layout(x.g); l.Sectors != x.sectors || l.Bands != x.bands || l.BandLen != x.long || l.Extents != x.most || l.Run != x.run {
			t.Error(x, l)
		}
	}
}

func layout(x api.Geom) api.Layout {
	l, _ := geom.Layout(x)
	return l
}

// numbers makes numbers from 0 on, below one that is said: the same ones each time.
func numbers(seed uint64) func(below int) int {
	x := seed*0x9E3779B97F4A7C15 + 1
	return func(below int) int {
		x ^= x << 13
		x ^= x >> 7
		x ^= x << 17
		return int(x>>11) % below
	}
}

func must(t *testing.T, l ...api.Errno) {
	t.Helper()
	for i, e := range l {
		if e != api.OK {
			t.Fatal(i, e)
		}
	}
}

// formatted is a disk of a geometry on which there is an empty device.
func formatted(t *testing.T, x api.Geom) *zdisk.Disk {
	t.Helper()
	d, e := zdisk.New(geom.Shape(x))
	must(t, e, meta.Format(d, x))
	return d
}

// some is n sectors, all bytes of which are other ones than their neighbours.
func some(n, seed int) []byte {
	b := make([]byte, n*128)
	for i := range b {
		b[i] = byte(i*7 + i/128*3 + seed)
		if i%128 == 5 {
			b[i] = byte(seed >> 8)
		}
	}
	return b
}

func s(at, n int) api.Span { return api.Span{At: at, N: n} }

func extent(at, n, zone, off int) api.Extent {
	return api.Extent{At: at, N: n, Zone: zone, Off: off}
}

func same(a, b api.State) bool {
	return a.Upto == b.Upto && slices.Equal(a.Homes, b.Homes) && slices.Equal(a.Bad, b.Bad) && slices.Equal(a.Extents, b.Extents)
}

// Policies, and options with one of them.
const (
	fifo   = api.PolicyFifo
	greedy = api.PolicyGreedy
)

func options(chunk, policy int) api.Options {
	return api.Options{Chunk: chunk, Policy: policy}
}

// noPolicies and noChunks are none.
func noPolicies() []int { return []int{math.MinInt, -1, 0, 3, 4, 257, math.MaxInt} }
func noChunks() []int   { return []int{math.MinInt, -1, 0, 4097, 1<<32 + 1, math.MaxInt} }

// kit is a device, its disk, and what a plain array of sectors has in its place.
type kit struct {
	t     *testing.T
	geom  api.Geom
	opts  api.Options
	disk  *zdisk.Disk
	dev   *stl.Device
	plain []byte
	seed  int
}

// newKit is an empty device, with chunks of 4 and PolicyFifo.
func newKit(t *testing.T, x api.Geom) *kit {
	t.Helper()
	k := &kit{t: t, geom: x, opts: options(4, fifo), disk: formatted(t, x), plain: make([]byte, layout(x).Sectors*128)}
	k.mount()
	return k
}

// mount mounts the disk anew.
func (k *kit) mount() {
	k.t.Helper()
	v, e := stl.Mount(k.disk, k.opts)
	must(k.t, e)
	k.dev = v
}

// crash crashes, keeping nothing of what is unsure, and mounts what is left.
func (k *kit) crash() {
	k.t.Helper()
	must(k.t, k.disk.Crash(nil, nil))
	k.mount()
}

func (k *kit) want(what string, got, want api.Errno) {
	k.t.Helper()
	if got != want {
		k.t.Errorf("%s: %d, not %d", what, got, want)
	}
}

// write writes n sectors from at on, none of which were written ever, and wants a
// code; where that is OK the plain array has them.
func (k *kit) write(at, n int, fua bool, want api.Errno) {
	k.t.Helper()
	k.seed++
	b := some(n, k.seed*31)
	e := k.dev.Write(at, b, fua)
	if e != want {
		k.t.Errorf("Write %d, %d: %d, not %d", at, n, e, want)
	}
	if e == api.OK {
		copy(k.plain[at*128:], b)
	}
}

func (k *kit) discard(at, n int, want api.Errno) {
	k.t.Helper()
	e := k.dev.Discard(s(at, n))
	if e != want {
		k.t.Errorf("Discard %d, %d: %d, not %d", at, n, e, want)
	}
	if e == api.OK {
		clear(k.plain[at*128 : (at+n)*128])
	}
}

func (k *kit) flush(want api.Errno) {
	k.t.Helper()
	k.want("Flush", k.dev.Flush(), want)
}

// step wants what a step tells, and the job's state behind it.
func (k *kit) step(is bool, want api.Errno, job int) {
	k.t.Helper()
	did, e := k.dev.Step()
	if did != is || e != want {
		k.t.Errorf("Step: %t %d, not %t %d", did, e, is, want)
	}
	if got := k.dev.Status().Job; got != job {
		k.t.Errorf("a job of state %d, not %d", got, job)
	}
}

// steps wants that n steps do something, each of them.
func (k *kit) steps(n int) {
	k.t.Helper()
	for i := range n {
		if is, e := k.dev.Step(); !is || e != api.OK {
			k.t.Fatalf("step %d: %t %d", i, is, e)
		}
	}
}

// till steps till the job has a state.
func (k *kit) till(job int) {
	k.t.Helper()
	for range 1000 {
		if k.dev.Status().Job == job {
			return
		}
		k.steps(1)
	}
	k.t.Fatal("no such state: ", job)
}

func (k *kit) drain() {
	k.t.Helper()
	_, e := k.dev.Drain()
	must(k.t, e)
}

// reads wants that all sectors are what the plain array has: all together, and
// one by one.
func (k *kit) reads() {
	k.t.Helper()
	n := len(k.plain) / 128
	if b, e := k.dev.Read(0, n); e != api.OK || !bytes.Equal(b, k.plain) {
		k.t.Errorf("all sectors: %d", e)
	}
	for at := range n {
		k.readsOne(at)
	}
}

func (k *kit) readsOne(at int) {
	k.t.Helper()
	if b, e := k.dev.Read(at, 1); e != api.OK || !bytes.Equal(b, k.plain[at*128:(at+1)*128]) {
		k.t.Errorf("sector %d: %d", at, e)
	}
}

// cmd is a command as the tests want it: kind, zone, where in the zone, and how
// many sectors.
type cmd struct{ kind, zone, at, n int }

// Commands that are wanted.
func written(zone, at, n int) cmd { return cmd{api.CmdWrite, zone, at, n} }
func read(zone, at, n int) cmd    { return cmd{api.CmdRead, zone, at, n} }
func finished(zone int) cmd       { return cmd{api.CmdFinish, zone, 0, 0} }
func emptied(zone int) cmd        { return cmd{api.CmdReset, zone, 0, 0} }

// flushed is a flush; conv is a write of the conventional sector.
var flushed = cmd{api.CmdFlush, -1, 0, 0}

func (k *kit) conv(at int) cmd {
	return cmd{api.CmdWrite, at / k.geom.Len, at % k.geom.Len, 1}
}

// given is the commands from one on.
func (k *kit) given(from int) []api.Cmd {
	return slices.Collect(k.disk.Cmds())[from:]
}

// gives wants that just these commands are given, and are OK; reads are left out,
// if none is wanted.
func (k *kit) gives(do func(), want ...cmd) {
	k.t.Helper()
	from := len(k.given(0))
	do()
	asked := slices.ContainsFunc(want, func(c cmd) bool { return c.kind == api.CmdRead })
	var got []cmd
	for _, c := range k.given(from) {
		x := cmd{c.Kind, c.Zone, c.At, c.N}
		if c.Kind == api.CmdRead || c.Kind == api.CmdWrite {
			x.at -= c.Zone * k.geom.Len
		}
		if c.Kind != api.CmdRead || asked {
			got = append(got, x)
		}
		if c.Code != api.OK {
			k.t.Errorf("refused: %v", c)
		}
	}
	if !slices.Equal(got, want) {
		k.t.Errorf("commands %v, not %v", got, want)
	}
}

// nothing wants that no command is given.
func (k *kit) nothing(do func()) {
	k.t.Helper()
	from := len(k.given(0))
	do()
	if l := k.given(from); len(l) > 0 {
		k.t.Errorf("commands %v", l)
	}
}

// status wants a status.
func (k *kit) status(want api.Status) {
	k.t.Helper()
	if got := k.dev.Status(); got != want {
		k.t.Errorf("status %+v, not %+v", got, want)
	}
}

// extents wants the map's extents.
func (k *kit) extents(want ...api.Extent) {
	k.t.Helper()
	if got := k.dev.State().Extents; !slices.Equal(got, want) {
		k.t.Errorf("extents %v, not %v", got, want)
	}
}

// homes wants the bands' homes.
func (k *kit) homes(want ...int) {
	k.t.Helper()
	if got := k.dev.State().Homes; !slices.Equal(got, want) {
		k.t.Errorf("homes %v, not %v", got, want)
	}
}

// isBad wants that just these zones are bad.
func (k *kit) isBad(want ...int) {
	k.t.Helper()
	var got []int
	for i, is := range k.dev.State().Bad {
		if is {
			got = append(got, k.geom.Conv+i)
		}
	}
	if !slices.Equal(got, want) {
		k.t.Errorf("bad zones %v, not %v", got, want)
	}
}

// zone is what the disk reports of a zone.
func (k *kit) zone(i int) api.Zone {
	k.t.Helper()
	z, e := k.disk.Zone(i)
	must(k.t, e)
	return z
}
