package ring_test

import (
	"bytes"
	"math"
	"slices"
	"testing"

	"thatch/api"
	"thatch/geom"
	"thatch/record"
	"thatch/ring"
	"thatch/zdisk"
)

// example has a ring of 16 records; small, one of 8; great, one of 8194, which
// has more deltas than a group may have.
var (
	example = api.Geom{Conv: 2, Seq: 6, Len: 16, Limit: 2, Cache: 2}
	small   = api.Geom{Conv: 2, Seq: 4, Len: 8, Limit: 2, Cache: 1}
	great   = api.Geom{Conv: 16, Seq: 4, Len: 1024, Limit: 2, Cache: 1}
)

func disk(t *testing.T, g api.Geom) *zdisk.Disk {
	t.Helper()
	d, e := zdisk.New(geom.Shape(g))
	if e != api.OK {
		t.Fatal(e)
	}
	return d
}

func made(t *testing.T, d *zdisk.Disk, g api.Geom, epoch, first int) *ring.Ring {
	t.Helper()
	r, e := ring.New(d, g, epoch, first)
	if e != api.OK || r == nil {
		t.Fatal(e)
	}
	return r
}

func long(t *testing.T, g api.Geom) int {
	t.Helper()
	l, e := geom.Layout(g)
	if e != api.OK {
		t.Fatal(e)
	}
	return l.RingLen
}

// holes are n deltas, each another one, beginning with one of its own.
func holes(from, n int) []api.Delta {
	var l []api.Delta
	for i := range n {
		l = append(l, api.Delta{Kind: api.DeltaHole, At: from + i, N: 1 + i%9})
	}
	return l
}

// wantRing wants what a ring tells of itself.
func wantRing(t *testing.T, what string, r *ring.Ring, room, used, next, epoch int, dead bool) {
	t.Helper()
	if r.Room() != room || r.Used() != used || r.Next() != next || r.Epoch() != epoch || r.Dead() != dead {
		t.Errorf("%s: room %d, used %d, next %d, epoch %d, dead %t", what, r.Room(), r.Used(), r.Next(), r.Epoch(), r.Dead())
	}
}

// wantAppend wants what is told of a group that is appended.
func wantAppend(t *testing.T, what string, r *ring.Ring, l []api.Delta, upto, n int, e api.Errno) {
	t.Helper()
	if got, code := r.Append(l, upto); got != n || code != e {
		t.Errorf("%s: %d %d, not %d %d", what, got, code, n, e)
	}
}

// wantFind wants what is found.
func wantFind(t *testing.T, what string, d *zdisk.Disk, g api.Geom, epoch, first int, groups [][]api.Delta, upto, next int, e api.Errno) {
	t.Helper()
	got, u, n, code := ring.Find(d, g, epoch, first)
	if !slices.EqualFunc(got, groups, slices.Equal[[]api.Delta]) || u != upto || n != next || code != e {
		t.Errorf("%s: %d groups, %d, %d, %d, not %d, %d, %d, %d", what, len(got), u, n, code, len(groups), upto, next, e)
	}
}

// given is how many of the disk's commands are of a kind.
func given(d *zdisk.Disk, kind int) int {
	n := 0
	for c := range d.Cmds() {
		if c.Kind == kind {
			n++
		}
	}
	return n
}

// P10.1, P10.2: which rings there may be; Find asks for the same.
func TestNew(t *testing.T) {
	d := disk(t, example)
	try := func(d *zdisk.Disk, g api.Geom, epoch, first int, want api.Errno) {
		t.Helper()
		r, e := ring.New(d, g, epoch, first)
		if e != want || (r == nil) != (want != api.OK) {
			t.Errorf("%v, %d, %d: %d, not %d", g, epoch, first, e, want)
		}
		upto, next := -1, first
		if want != api.OK {
			upto, next = 0, 0
		}
		wantFind(t, "an empty disk", d, g, epoch, first, nil, upto, next, want)
	}
	for _, epoch := range []int{1, 2, 1<<31 - 1, 1 << 31} {
		for _, first := range []int{0, 1, 17, 1<<40 - 1, 1 << 40} {
			try(d, example, epoch, first, api.OK)
			r := made(t, d, example, epoch, first)
			wantRing(t, "a new one", r, 16, 0, first, epoch, false)
		}
	}
	for _, epoch := range []int{math.MinInt, -1, 0, 1<<31 + 1, 1<<32 + 1, math.MaxInt} {
		try(d, example, epoch, 0, api.ErrArg)
		try(disk(t, small), example, epoch, 0, api.ErrGeom)
	}
	for _, first := range []int{math.MinInt, -1, 1<<40 + 1, math.MaxInt} {
		try(d, example, 1, first, api.ErrArg)
		try(d, small, 1, first, api.ErrGeom)
		try(nil, example, 1, first, api.ErrGeom)
	}
	try(nil, example, 1, 0, api.ErrGeom)
	try(nil, api.Geom{}, 1, 0, api.ErrGeom)
	try(nil, api.Geom{}, 0, -1, api.ErrGeom)
	for _, g := range []api.Geom{
		{}, small, {Conv: 3, Seq: 6, Len: 16, Limit: 2, Cache: 2}, {Conv: 2, Seq: 7, Len: 16, Limit: 2, Cache: 2},
		{Conv: 2, Seq: 6, Len: 17, Limit: 2, Cache: 2}, {Conv: 2, Seq: 6, Len: 16, Limit: 3, Cache: 2},
		{Conv: 2, Seq: 6, Len: 16, Limit: 2, Cache: 5}, {Conv: 2, Seq: 6, Len: 16, Limit: 2, Cache: 0}, {Conv: math.MaxInt, Seq: 6, Len: math.MaxInt, Limit: 2, Cache: 2},
	} {
		try(d, g, 1, 0, api.ErrGeom)
	}
	// The cache is nothing of the disk's shape.
	try(d, api.Geom{Conv: 2, Seq: 6, Len: 16, Limit: 2, Cache: 4}, 1, 0, api.OK)
	if given(d, api.CmdWrite) != 0 {
		t.Error("something was written")
	}
}

// P10.1, P10.2: what is written where, one Write each, in order.
func TestAppend(t *testing.T) {
	for _, g := range []api.Geom{example, small} {
		l := long(t, g)
		for _, first := range []int{0, 1, l - 2, l, 5*l + 3, 1<<40 - l + 1} {
			d := disk(t, g)
			r := made(t, d, g, 9, first)
			next, upto := first, 0
			for i, n := range []int{7, 0, 6, 1, 13, 1} {
				upto += i
				needs := record.Needs(n)
				wantAppend(t, "a group", r, holes(i, n), upto, needs, api.OK)
				want, _ := record.Group(holes(i, n), 9, next, upto)
				next += needs
				wantRing(t, "behind a group", r, l-next+first, next-first, next, 9, false)
				cmds := slices.Collect(d.Cmds())
				for k, c := range slices.DeleteFunc(cmds, func(c api.Cmd) bool { return c.Kind == api.CmdRead })[next-first-needs:] {
					if c.Kind != api.CmdWrite || c.At != geom.RingAt(g, next-needs+k) || c.N != 1 {
						t.Errorf("command %d of a group: %v", k, c)
					}
				}
				for _, x := range want {
					b, _ := record.Encode(x)
					if got, e := d.Read(geom.RingAt(g, x.Seq), 1); e != api.OK || !bytes.Equal(got, b) {
						t.Errorf("record %d: %x %d", x.Seq, got, e)
					}
				}
				if l-next+first < 3 {
					break
				}
			}
			if given(d, api.CmdWrite) != next-first || given(d, api.CmdFlush) != 0 {
				t.Error("other commands than one Write each")
			}
		}
	}
}

// P10.1: the example.
func TestExample(t *testing.T) {
	r := made(t, disk(t, example), example, 1, 0)
	wantAppend(t, "7 deltas", r, holes(0, 7), 0, 2, api.OK)
	wantRing(t, "behind them", r, 14, 2, 2, 1, false)
}

// P10.1: a ring that is filled to its end.
func TestFull(t *testing.T) {
	for _, first := range []int{0, 5, 16, 1000} {
		d := disk(t, example)
		r := made(t, d, example, 3, first)
		wantAppend(t, "more than all", r, holes(0, 97), 1, 0, api.ErrFull)
		wantAppend(t, "most", r, holes(0, 80), 1, 14, api.OK)
		wantAppend(t, "three of two", r, holes(0, 13), 2, 0, api.ErrFull)
		wantRing(t, "behind a refusal", r, 2, 14, first+14, 3, false)
		wantAppend(t, "two of two", r, holes(0, 12), 2, 2, api.OK)
		wantAppend(t, "nothing of none", r, nil, 2, 0, api.ErrFull)
		wantAppend(t, "one of none", r, holes(0, 1), 2, 0, api.ErrFull)
		wantRing(t, "a full one", r, 0, 16, first+16, 3, false)
		wantFind(t, "a full one", d, example, 3, first, [][]api.Delta{holes(0, 80), holes(0, 12)}, 2, first+16, api.OK)
		if given(d, api.CmdWrite) != 16 {
			t.Error("something was written beyond the room")
		}
	}
	d := disk(t, example)
	r := made(t, d, example, 3, 40)
	wantAppend(t, "all at once", r, holes(0, 96), 1, 16, api.OK)
	wantFind(t, "all at once", d, example, 3, 40, [][]api.Delta{holes(0, 96)}, 1, 56, api.OK)
}

// P10.1: what Group refuses comes ahead of all else, and changes nothing.
func TestAppendRefused(t *testing.T) {
	d := disk(t, example)
	r := made(t, d, example, 3, 7)
	bad := append(holes(0, 96), api.Delta{Kind: 9})
	refuse := func(what string) {
		t.Helper()
		for _, upto := range []int{math.MinInt, -1, 1<<40 + 1, math.MaxInt} {
			wantAppend(t, what, r, nil, upto, 0, api.ErrArg)
			wantAppend(t, what, r, holes(0, 6001), upto, 0, api.ErrArg)
		}
		wantAppend(t, what, r, bad[96:], 1, 0, api.ErrArg)
		wantAppend(t, what, r, bad, 1, 0, api.ErrArg)
		wantAppend(t, what, r, holes(0, 6001), 1, 0, api.ErrLong)
		wantAppend(t, what, r, holes(0, 97), 1, 0, api.ErrFull)
		wantAppend(t, what, r, holes(0, 6000), 1, 0, api.ErrFull)
	}
	refuse("an empty ring")
	wantRing(t, "behind refusals", r, 16, 0, 7, 3, false)
	wantAppend(t, "behind refusals", r, holes(0, 1), 1<<40, 1, api.OK)
	d.Fail(1)
	wantAppend(t, "a write that fails", r, holes(0, 1), 1, 0, api.ErrMedia)
	refuse("a dead ring")
	wantAppend(t, "a dead ring", r, holes(0, 90), 1, 0, api.ErrClosed)
	wantAppend(t, "a dead ring", r, holes(0, 91), 1, 0, api.ErrFull)
	wantAppend(t, "a dead ring", r, nil, 1, 0, api.ErrClosed)
	wantRing(t, "a dead ring", r, 15, 1, 8, 3, true)
	wantFind(t, "a dead ring", d, example, 3, 7, [][]api.Delta{holes(0, 1)}, 1<<40, 8, api.OK)

	// Numbers come to an end.
	r = made(t, d, example, 3, 1<<40)
	wantAppend(t, "two records, one number", r, holes(0, 7), 1, 0, api.ErrArg)
	wantAppend(t, "one record, one number", r, holes(0, 6), 1, 1, api.OK)
	wantAppend(t, "no number", r, nil, 1, 0, api.ErrArg)
	wantRing(t, "no number", r, 15, 1, 1<<40+1, 3, false)
	wantFind(t, "the last number", d, example, 3, 1<<40, [][]api.Delta{holes(0, 6)}, 1, 1<<40+1, api.OK)
}

// P10.1: groups of more deltas than there may be, where there is room.
func TestGreat(t *testing.T) {
	d := disk(t, great)
	r := made(t, d, great, 3, 8000)
	l := long(t, great)
	if l < 2000 {
		t.Fatal(l)
	}
	wantAppend(t, "too many", r, holes(0, 6001), 1, 0, api.ErrLong)
	wantAppend(t, "many", r, holes(0, 6000), 1, 1000, api.OK)
	wantAppend(t, "more", r, holes(7, 5999), 2, 1000, api.OK)
	wantRing(t, "many", r, l-2000, 2000, 10000, 3, false)
	wantFind(t, "many", d, great, 3, 8000, [][]api.Delta{holes(0, 6000), holes(7, 5999)}, 2, 10000, api.OK)
}

// P10.1: writes that are refused, the first of a group or a later one.
func TestDead(t *testing.T) {
	deltas := holes(0, 13)
	for done := range 3 {
		d := disk(t, example)
		r := made(t, d, example, 3, 7)
		wantAppend(t, "a group", r, holes(5, 2), 4, 1, api.OK)
		// The power goes behind some records of a group.
		d.Flush()
		d.Stop(done)
		wantAppend(t, "the power goes", r, deltas, 5, 0, api.ErrOff)
		wantRing(t, "the power is gone", r, 15, 1, 8, 3, true)
		d.Crash([]api.Keep{{Sector: geom.RingAt(example, 8)}, {Sector: geom.RingAt(example, 9)}}, nil)
		writes := given(d, api.CmdWrite)
		wantAppend(t, "the power is back", r, deltas, 5, 0, api.ErrClosed)
		wantRing(t, "the power is back", r, 15, 1, 8, 3, true)
		if writes != 1+done || given(d, api.CmdWrite) != writes {
			t.Errorf("%d writes", given(d, api.CmdWrite))
		}
		wantFind(t, "the power is back", d, example, 3, 7, [][]api.Delta{holes(5, 2)}, 4, 8, api.OK)
		// A new ring is not dead.
		r = made(t, d, example, 3, 8)
		wantAppend(t, "a new ring", r, deltas, 5, 3, api.OK)
		wantFind(t, "a new ring", d, example, 3, 7, [][]api.Delta{holes(5, 2), deltas}, 5, 11, api.OK)
	}
}

// P10.1: a ring of which a part stands in a zone that can not be written.
func TestDeadZone(t *testing.T) {
	g := api.Geom{Conv: 4, Seq: 6, Len: 16, Limit: 2, Cache: 2}
	// Records up to 15 stand in zone 2, those behind them in zone 3.
	d := disk(t, g)
	d.Hurt(3, api.ZoneReadOnly)
	r := made(t, d, g, 3, 14)
	wantAppend(t, "one in zone 2", r, nil, 5, 1, api.OK)
	wantAppend(t, "one in zone 2, two in zone 3", r, holes(0, 13), 5, 0, api.ErrState)
	wantRing(t, "behind them", r, 31, 1, 15, 3, true)
	wantAppend(t, "a dead one", r, nil, 5, 0, api.ErrClosed)
	if n := given(d, api.CmdWrite); n != 3 {
		t.Errorf("%d writes", n)
	}
	d = disk(t, g)
	d.Hurt(2, api.ZoneReadOnly)
	r = made(t, d, g, 3, 14)
	wantAppend(t, "two in zone 2, one in zone 3", r, holes(0, 13), 5, 0, api.ErrState)
	wantRing(t, "behind them", r, 32, 0, 14, 3, true)
	if n := given(d, api.CmdWrite); n != 1 {
		t.Errorf("%d writes", n)
	}
}

// P10.1, P10.2: of a nil Ring.
func TestNil(t *testing.T) {
	var r *ring.Ring
	wantRing(t, "nil", r, 0, 0, 0, 0, true)
	wantAppend(t, "nil", r, nil, 1, 0, api.ErrClosed)
	wantAppend(t, "nil", r, holes(0, 6001), -1, 0, api.ErrClosed)
}

// R3: what is handed in is not changed and not kept, and what is found shares
// nothing.
func TestNothingShared(t *testing.T) {
	d := disk(t, example)
	r := made(t, d, example, 3, 0)
	room := holes(0, 30)
	wantAppend(t, "a group", r, room[:7], 1, 2, api.OK)
	wantAppend(t, "a group", r, room[7:10], 1, 1, api.OK)
	if !slices.Equal(room, holes(0, 30)) {
		t.Error("changed")
	}
	wipe(room)
	want := [][]api.Delta{holes(0, 7), holes(0, 10)[7:]}
	for range 3 {
		wantFind(t, "two groups", d, example, 3, 0, want, 1, 3, api.OK)
		got, _, _, _ := ring.Find(d, example, 3, 0)
		wipe(got[0])
		if !slices.Equal(got[1], want[1]) {
			t.Error("two groups share")
		}
		wipe(got[1])
	}
}

// wipe changes a list, and the room behind its end.
func wipe(l []api.Delta) {
	l = l[:cap(l)]
	for i := range l {
		l[i] = api.Delta{Kind: -1}
	}
}
