package mcache_test

import (
	"bytes"
	"slices"
	"testing"

	"thatch/api"
)

// pair is a cache, and a plain one that is told the same.
type pair struct {
	*kit
	plain  *plain
	number func(below int) int
	stand  []stood // what was appended to zones that are the cache's still
}

// stood is a batch, and the zone to which it was appended.
type stood struct {
	zone  int
	batch api.Batch
}

// someSpan is any span of the device that has at most so many sectors.
func (x *pair) someSpan(most int) api.Span {
	long := (x.geom.Seq - x.geom.Cache - 1) * (x.geom.Len - 1)
	at := x.number(long)
	return s(at, 1+x.number(min(most, long-at)))
}

// appended does the same with the plain cache as Write and Trim do with theirs:
// the deltas of batches, and the first error.
func (x *pair) appended(l []api.Batch, data []byte) ([]api.Delta, api.Errno) {
	var deltas []api.Delta
	for _, b := range l {
		zone, off, e := x.plain.append(sectors(x.t, x.geom, b, data))
		if e == api.OK || e == api.ErrIO && b.Kind == api.BatchData {
			x.plain.last = b.Seq
		}
		if e != api.OK {
			return nil, e
		}
		x.stand = append(x.stand, stood{zone, b})
		for _, at := range b.Spans {
			if b.Kind == api.BatchHole {
				deltas = append(deltas, hole(at.At, at.N))
				continue
			}
			deltas = append(deltas, put(at.At, at.N, zone, off+1))
		}
	}
	return deltas, api.OK
}

func (x *pair) writeAny() {
	x.t.Helper()
	at := x.someSpan(min(8, x.geom.Len-2))
	data := some(at.N, x.number(256))
	want, code := x.appended([]api.Batch{dataBatch(x.plain.last+1, at)}, data)
	got, e := x.cache.Write(at, data)
	if e != code || !slices.Equal(got, want) {
		x.t.Fatalf("Write %v: %v %d, not %v %d", at, got, e, want, code)
	}
}

// trimAny trims some times the same sector, so that each time has a batch of its own.
func (x *pair) trimAny() {
	x.t.Helper()
	at := x.someSpan(99)
	var l []api.Span
	var batches []api.Batch
	for i := range x.number(4) {
		l = append(l, at)
		batches = append(batches, holeBatch(x.plain.last+1+i, at))
	}
	want, code := x.appended(batches, nil)
	got, e := x.cache.Trim(l)
	if e != code || !slices.Equal(got, want) {
		x.t.Fatalf("Trim %v: %v %d, not %v %d", l, got, e, want, code)
	}
}

func (x *pair) freeAny() {
	x.t.Helper()
	zone := x.geom.Conv - 1 + x.number(x.geom.Seq+2)
	if l := x.plain.order; len(l) > 0 && x.number(3) > 0 {
		zone = l[x.number(len(l))]
	}
	want := x.plain.free(zone)
	if e := x.cache.Free(zone); e != want {
		x.t.Fatalf("Free %d: %d, not %d", zone, e, want)
	}
	if want == api.OK || want == api.ErrState {
		x.stand = slices.DeleteFunc(x.stand, func(b stood) bool { return b.zone == zone })
	}
}

// breakAny lets writes fail, or makes a zone read-only.
func (x *pair) breakAny() {
	x.t.Helper()
	if x.number(3) > 0 {
		x.plain.fails = x.number(4)
		must(x.t, x.disk.Fail(x.plain.fails))
		return
	}
	i := x.number(x.geom.Seq)
	if x.plain.hurt[i] == 0 && x.number(4) == 0 {
		x.plain.hurt[i] = 1
		must(x.t, x.disk.Hurt(x.geom.Conv+i, api.ZoneReadOnly))
	}
}

func (x *pair) fitsAny() {
	x.t.Helper()
	var l []int
	for range x.number(8) {
		l = append(l, 1+x.number(x.geom.Len))
	}
	if x.number(9) == 0 {
		l = append(l, x.number(2)*(x.geom.Len+1))
	}
	x.fits(x.plain.fits(l), l...)
}

// same wants the cache, its pool, and what stands on its disk, to be as the
// plain one has it.
func (x *pair) same() {
	x.t.Helper()
	active := -1
	if x.plain.active >= 0 {
		active = x.geom.Conv + x.plain.active
	}
	x.is(x.plain.last, active, x.plain.order...)
	x.roles(x.plain.roles...)
	for i, want := range x.plain.content {
		if !bytes.Equal(x.stands(x.geom.Conv+i), want) {
			x.t.Errorf("zone %d is another one", x.geom.Conv+i)
		}
	}
	want := x.stand
	got := x.batches()
	if !slices.EqualFunc(got, want, func(a api.Batch, b stood) bool { return isSame(a, b.batch) }) {
		x.t.Errorf("batches %v, not %v", got, want)
	}
	if x.t.Failed() {
		x.t.FailNow()
	}
}

// any does anything with both caches.
func (x *pair) any(faults bool) {
	x.t.Helper()
	switch x.number(12) {
	case 0:
		if x.cache.PutBy() != x.plain.putBy(false) {
			x.t.Fatal("PutBy")
		}
	case 1, 2:
		x.freeAny()
	case 3, 4:
		x.trimAny()
	case 5:
		x.fitsAny()
	case 6:
		if faults {
			x.breakAny()
		}
	case 7:
		must(x.t, x.disk.Flush())
	default:
		x.writeAny()
	}
}

// P17.1 to P17.3: any steps, with faults and without them: what was written
// stands in its zone, as its deltas say; the batches of all zones, by their
// numbers, are all that were appended.
func TestAnySteps(t *testing.T) {
	for seed := range 240 {
		number := numbers(uint64(seed))
		g := []api.Geom{small, narrow, wide}[seed%3]
		x := &pair{newKit(t, g, seed*7), newPlain(g, seed*7), number, nil}
		for range 120 {
			x.any(seed%2 > 0)
			x.same()
		}
		if seed%2 > 0 {
			continue
		}
		for c := range x.disk.Cmds() {
			if c.Code != api.OK {
				t.Fatal("refused", c)
			}
		}
	}
}
