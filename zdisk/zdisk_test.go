package zdisk_test

import (
	"bytes"
	"math"
	"slices"
	"testing"

	"thatch/api"
	"thatch/zdisk"
)

// row is a row of numbers that is the same each time.
type row uint64

func (r *row) below(n int) int {
	*r ^= *r << 13
	*r ^= *r >> 7
	*r ^= *r << 17
	return int((uint64(*r) >> 11) % uint64(n))
}

// of is one of some numbers.
func (r *row) of(l ...int) int {
	return l[r.below(len(l))]
}

// check holds a disk against the plain one: all that it tells.
func check(t *testing.T, x both) {
	t.Helper()
	if x.d.Shape() != x.p.shape || x.d.Off() != x.p.off || x.d.Opens() != x.p.opens() || x.d.Unsure() != x.p.unsure() {
		t.Fatalf("off %t, %d open, %d unsure, not %t, %d, %d", x.d.Off(), x.d.Opens(), x.d.Unsure(), x.p.off, x.p.opens(), x.p.unsure())
	}
	for i := range x.p.states {
		if z, e := x.d.Zone(i); e != api.OK || z != x.p.zone(i) {
			t.Fatalf("zone %v %d, not %v", z, e, x.p.zone(i))
		}
	}
	if cmds := slices.Collect(x.d.Cmds()); !slices.Equal(cmds, x.p.cmds) {
		for i, c := range cmds {
			if i >= len(x.p.cmds) || c != x.p.cmds[i] {
				t.Fatalf("command %d of %d: %v", i, len(cmds), c)
			}
		}
		t.Fatalf("%d commands, not %d", len(cmds), len(x.p.cmds))
	}
	// A read is a command: it is given to another disk.
	f := x.fork()
	for at := range f.p.spoiled {
		if e, code, same := f.read(at, 1); e != code || !same {
			t.Fatalf("sector %d: %d, not %d, %t", at, e, code, same)
		}
	}
}

// act does one thing with both, that may be one that is refused.
func act(x both, r *row, c *count) (string, api.Errno, api.Errno) {
	all, conv := len(x.p.spoiled), len(x.p.conv)
	at := r.below(all)
	zone := r.of(r.below(len(x.p.states)), r.below(len(x.p.states)), x.p.shape.Conv, -1, len(x.p.states))
	switch what := r.below(40); {
	case what < 6:
		at = r.of(at, at, at, -1, all)
		e, code, same := x.read(at, r.of(1, 1, 2, 3, x.p.shape.Len, 0, -1, x.p.shape.Len+1))
		if !same {
			return "Read", e, -1
		}
		return "Read", e, code
	case what < 20:
		// Most of them begin at a write pointer, or are to a conventional zone.
		if z := x.p.zone(x.p.zoneOf(at)); z.Kind == api.KindSeq && r.below(8) > 0 {
			at = z.Start + z.Written
		}
		left := max(0, r.below(20)-18)
		e, code := x.write(r.of(at, at, at, at, at, r.below(conv), -1, all), c.next(r.of(1, 1, 2, 3, 4, 0)), left)
		return "Write", e, code
	case what < 31:
		e, code := x.steer(r.of(api.CmdOpen, api.CmdOpen, api.CmdClose, api.CmdFinish, api.CmdReset, api.CmdFlush, api.CmdFlush), zone)
		return "a command", e, code
	case what < 34:
		var keep []api.Keep
		for range r.below(12) {
			keep = append(keep, api.Keep{Sector: r.of(r.below(conv), r.below(conv), r.below(conv)), Back: r.of(0, 0, 1, 1, 2, 3, 4, 9, -1)})
		}
		if r.below(9) == 0 {
			keep = append(keep, api.Keep{Sector: r.of(-1, conv)})
		}
		var prefix []int
		for range r.below(x.p.shape.Seq + 2) {
			prefix = append(prefix, r.of(0, 1, 2, 3, 100, -1))
		}
		return "Crash", x.d.Crash(keep, prefix), x.p.crash(keep, prefix)
	case what < 36:
		e, code := x.fail(r.of(0, 1, 2, -1))
		return "Fail", e, code
	case what < 38:
		e, code := x.stop(r.of(1, 2, 3, 5, 0, -1))
		return "Stop", e, code
	case what < 39:
		return "Spoil", x.d.Spoil(at), x.p.spoil(at)
	}
	// Zones are hurt for ever: but few are.
	if r.below(6) > 0 {
		return "nothing", api.OK, api.OK
	}
	state := r.of(api.ZoneReadOnly, api.ZoneOffline, api.ZoneFull, 0, 8)
	return "Hurt", x.d.Hurt(zone, state), x.p.hurt(zone, state)
}

// P6.1 to P6.5: disks, and forks of them, held against plain ones behind each
// of many things.
func TestPlain(t *testing.T) {
	r, c := row(88172645463325252), count(0)
	told := map[api.Errno]int{}
	for _, s := range []api.Shape{{Conv: 1, Seq: 1, Len: 4, Limit: 1}, {Conv: 1, Seq: 3, Len: 4, Limit: 1}, {Conv: 2, Seq: 4, Len: 5, Limit: 2}, {Conv: 1, Seq: 6, Len: 8, Limit: 3}, {Conv: 1, Seq: 5, Len: 6, Limit: 5}} {
		for range 25 {
			d, e := zdisk.New(s)
			if e != api.OK {
				t.Fatal(e)
			}
			l := []both{{d, newPlain(s)}, {}, {}}
			l[1], l[2] = l[0].fork(), l[0].fork()
			for range 150 {
				i := r.below(3)
				what, e, code := act(l[i], &r, &c)
				if e != code {
					t.Fatalf("%v: %s: %d, not %d", s, what, e, code)
				}
				told[code]++
				if l[i].d.Opens() > s.Limit {
					t.Fatal("too many open zones")
				}
				if r.below(20) == 0 {
					l[r.below(3)] = l[i].fork()
				}
				for _, x := range l {
					check(t, x)
				}
			}
		}
	}
	for _, code := range []api.Errno{api.OK, api.ErrArg, api.ErrNone, api.ErrOrder, api.ErrEnd, api.ErrState, api.ErrKind, api.ErrLimit, api.ErrMedia, api.ErrOff} {
		if told[code] < 10 {
			t.Errorf("error %d was told %d times", code, told[code])
		}
	}
}

// P6.1: shapes that may be, and such that may not.
func TestNew(t *testing.T) {
	edges := []int{math.MinInt, -1, 0, 1, 2, 3, 4, 5, 15, 16, 17, 127, 128, 129, 1023, 1024, 1025, math.MaxInt}
	made := 0
	for _, conv := range edges {
		for _, seq := range edges {
			for _, length := range edges {
				for _, limit := range edges {
					s := api.Shape{Conv: conv, Seq: seq, Len: length, Limit: limit}
					may := conv >= 1 && conv <= 16 && seq >= 1 && seq <= 128 && length >= 4 && length <= 1024 && limit >= 1 && limit <= seq
					d, e := zdisk.New(s)
					if may && (e != api.OK || d == nil || d.Shape() != s) || !may && (e != api.ErrArg || d != nil) {
						t.Fatalf("%v: %v %d", s, d, e)
					}
					if may {
						made++
					}
				}
			}
		}
	}
	if made == 0 {
		t.Error("none may be")
	}
	for _, s := range []api.Shape{{Conv: 1, Seq: 1, Len: 4, Limit: 1}, {Conv: 16, Seq: 128, Len: 1024, Limit: 128}} {
		x := pair(t, s)
		check(t, x)
		for _, i := range []int{math.MinInt, -1, s.Conv + s.Seq, 255, math.MaxInt} {
			if z, e := x.d.Zone(i); z != (api.Zone{}) || e != api.ErrArg {
				t.Errorf("zone %d: %v %d", i, z, e)
			}
		}
	}
}

// pair is a disk of a shape, and the plain one.
func pair(t *testing.T, s api.Shape) both {
	t.Helper()
	d, e := zdisk.New(s)
	if e != api.OK {
		t.Fatal(e)
	}
	return both{d, newPlain(s)}
}

// disk is one with two conventional zones and four sequential ones of eight sectors.
func disk(t *testing.T, limit int) *zdisk.Disk {
	t.Helper()
	return pair(t, api.Shape{Conv: 2, Seq: 4, Len: 8, Limit: limit}).d
}

// do wants one error after the other.
func do(t *testing.T, want api.Errno, got ...api.Errno) {
	t.Helper()
	for i, e := range got {
		if e != want {
			t.Errorf("call %d: %d, not %d", i, e, want)
		}
	}
}

// fill is n sectors full of one byte.
func fill(c byte, n int) []byte {
	return bytes.Repeat([]byte{c}, n*api.SectorBytes)
}

// has wants n sectors full of one byte.
func has(t *testing.T, d *zdisk.Disk, at, n int, c byte) {
	t.Helper()
	if b, e := d.Read(at, n); e != api.OK || !bytes.Equal(b, fill(c, n)) {
		t.Errorf("sectors %d to %d: %d, %v", at, at+n-1, e, b[:min(len(b), 1)])
	}
}

// is wants a zone to be in a state, with so much written.
func is(t *testing.T, d *zdisk.Disk, i, state, written int) {
	t.Helper()
	if z, e := d.Zone(i); e != api.OK || z.State != state || z.Written != written {
		t.Errorf("zone %v %d, not in state %d with %d", z, e, state, written)
	}
}

// refuses wants a read to be refused.
func refuses(t *testing.T, d *zdisk.Disk, at, n int, want api.Errno) {
	t.Helper()
	if b, e := d.Read(at, n); len(b) != 0 || e != want {
		t.Errorf("Read %d from %d on: %d bytes, %d, not %d", n, at, len(b), e, want)
	}
}

// P6.1: what is refused of a read and a write, which error comes first, and
// that nothing happens then.
func TestReadWrite(t *testing.T) {
	d := disk(t, 2)
	has(t, d, 0, 8, 0)
	has(t, d, 8, 8, 0)
	for _, at := range []int{math.MinInt, -1, 48, 49, math.MaxInt} {
		for _, n := range []int{math.MinInt, -1, 0, 1, 8, math.MaxInt} {
			refuses(t, d, at, n, api.ErrArg)
		}
		do(t, api.ErrArg, d.Write(at, fill(1, 1)), d.Write(at, nil), d.Write(at, fill(1, 1)[1:]))
	}
	do(t, api.ErrArg, d.Write(0, nil), d.Write(0, []byte{}), d.Write(0, []byte{1}), d.Write(0, make([]byte, 127)), d.Write(0, make([]byte, 129)), d.Write(20, make([]byte, 129)))
	for _, n := range []int{math.MinInt, -1, 0} {
		refuses(t, d, 3, n, api.ErrArg)
		refuses(t, d, 20, n, api.ErrArg)
	}
	for _, n := range []int{4, 9, math.MaxInt - 5, math.MaxInt} {
		refuses(t, d, 5, n, api.ErrEnd)
		refuses(t, d, 21, n, api.ErrEnd)
	}
	refuses(t, d, 16, 1, api.ErrOrder)
	do(t, api.ErrEnd, d.Write(7, fill(1, 2)), d.Write(15, fill(1, 2)), d.Write(16, fill(1, 9)), d.Write(47, fill(1, 2)))
	do(t, api.ErrOrder, d.Write(17, fill(1, 1)), d.Write(47, fill(1, 1)))
	is(t, d, 2, api.ZoneEmpty, 0)
	if d.Unsure() != 0 {
		t.Errorf("%d unsure", d.Unsure())
	}

	do(t, api.OK, d.Write(6, fill(1, 2)), d.Write(0, fill(2, 8)), d.Write(16, fill(3, 3)), d.Write(19, fill(4, 5)))
	has(t, d, 0, 8, 2)
	has(t, d, 8, 8, 0)
	has(t, d, 16, 3, 3)
	has(t, d, 19, 5, 4)
	is(t, d, 0, api.ZoneFree, 0)
	is(t, d, 2, api.ZoneFull, 8)
	do(t, api.ErrState, d.Write(16, fill(5, 1)), d.Write(23, fill(5, 2)), d.Open(2), d.Close(2))
	do(t, api.ErrKind, d.Open(0), d.Close(1), d.Finish(0), d.Reset(1))
	for _, i := range []int{math.MinInt, -1, 6, 255, math.MaxInt} {
		do(t, api.ErrArg, d.Open(i), d.Close(i), d.Finish(i), d.Reset(i), d.Hurt(i, api.ZoneOffline))
	}
	has(t, d, 16, 3, 3)
}

// P6.1, R3: what was read is new memory, what was written is not kept.
func TestCopies(t *testing.T) {
	d := disk(t, 2)
	for _, at := range []int{3, 16} {
		b := append(fill(7, 2), 9, 9, 9)[:2*api.SectorBytes]
		do(t, api.OK, d.Write(at, b))
		if !bytes.Equal(b[:cap(b)][:259], append(fill(7, 2), 9, 9, 9)) {
			t.Error("what was handed in is changed")
		}
		clear(b[:cap(b)])
		has(t, d, at, 2, 7)
		got, _ := d.Read(at, 2)
		clear(got[:cap(got)])
		has(t, d, at, 2, 7)
		other, _ := d.Read(at, 1)
		got = append(got[:0], fill(8, 2)...)
		if !bytes.Equal(other, fill(7, 1)) {
			t.Error("two answers share something")
		}
		has(t, d, at, 2, 7)
	}
	keep, prefix := []api.Keep{{Sector: 3, Back: 0}, {Sector: 3, Back: 1}, {Sector: 4}}, []int{5, -3}
	do(t, api.OK, d.Crash(keep, prefix))
	if !slices.Equal(keep, []api.Keep{{Sector: 3, Back: 0}, {Sector: 3, Back: 1}, {Sector: 4}}) || !slices.Equal(prefix, []int{5, -3}) {
		t.Error("what was handed in is changed")
	}
}

// P6.1, P6.2, P6.5: the open limit.
func TestLimit(t *testing.T) {
	d := disk(t, 1)
	do(t, api.OK, d.Write(16, fill(1, 1)), d.Write(24, fill(1, 1)))
	is(t, d, 2, api.ZoneClosed, 1)
	is(t, d, 3, api.ZoneImplicit, 1)
	do(t, api.OK, d.Open(2))
	is(t, d, 2, api.ZoneExplicit, 1)
	is(t, d, 3, api.ZoneClosed, 1)
	// A write that fills an empty zone has to open it, too.
	do(t, api.ErrLimit, d.Write(25, fill(1, 1)), d.Write(32, fill(1, 8)), d.Open(3), d.Open(4))
	is(t, d, 2, api.ZoneExplicit, 1)
	is(t, d, 3, api.ZoneClosed, 1)
	is(t, d, 4, api.ZoneEmpty, 0)
	// What needs no open zone, or is open, is not refused; nor is a conventional one.
	do(t, api.OK, d.Open(2), d.Write(17, fill(1, 1)), d.Write(0, fill(1, 1)), d.Finish(3), d.Reset(4), d.Close(2))
	do(t, api.OK, d.Open(4))
	do(t, api.OK, d.Close(4))
	is(t, d, 4, api.ZoneEmpty, 0)

	d = disk(t, 3)
	do(t, api.OK, d.Write(40, fill(1, 1)), d.Write(24, fill(1, 1)), d.Open(2), d.Write(32, fill(1, 1)))
	is(t, d, 2, api.ZoneExplicit, 0)
	is(t, d, 3, api.ZoneClosed, 1) // the lowest that is open implicitly, not the first that was opened
	is(t, d, 4, api.ZoneImplicit, 1)
	is(t, d, 5, api.ZoneImplicit, 1)
	do(t, api.OK, d.Open(5))
	is(t, d, 4, api.ZoneImplicit, 1)
	if d.Opens() != 3 {
		t.Errorf("%d open", d.Opens())
	}
	// One that is hurt is open no more.
	do(t, api.OK, d.Hurt(2, api.ZoneReadOnly), d.Write(25, fill(1, 1)))
	is(t, d, 4, api.ZoneImplicit, 1)
	do(t, api.ErrState, d.Open(2))
	if d.Opens() != 3 {
		t.Errorf("%d open", d.Opens())
	}
	// Nor is one that was finished.
	do(t, api.OK, d.Finish(3), d.Hurt(4, api.ZoneOffline))
	if d.Opens() != 1 {
		t.Errorf("%d open", d.Opens())
	}
}

// P6.1, P6.2: what is refused closes no zone, which it would have been closed for.
func TestLimitRefused(t *testing.T) {
	d := disk(t, 1)
	do(t, api.OK, d.Write(16, fill(1, 2)), d.Fail(1))
	do(t, api.ErrMedia, d.Write(24, fill(1, 1)))
	do(t, api.ErrOrder, d.Write(25, fill(1, 1)))
	do(t, api.ErrEnd, d.Write(24, fill(1, 9)))
	do(t, api.ErrArg, d.Write(24, nil))
	is(t, d, 2, api.ZoneImplicit, 2)
	is(t, d, 3, api.ZoneEmpty, 0)
	// One that is refused for the limit does not fail.
	do(t, api.OK, d.Open(2), d.Fail(1))
	do(t, api.ErrLimit, d.Write(24, fill(1, 1)))
	do(t, api.ErrMedia, d.Write(18, fill(1, 1)))
	do(t, api.OK, d.Write(18, fill(1, 1)))
}

// P6.2: a reset is sure at once, a flush makes all sure.
func TestResetFlush(t *testing.T) {
	d := disk(t, 4)
	do(t, api.OK, d.Write(16, fill(1, 8)), d.Write(24, fill(2, 3)), d.Write(5, fill(3, 1)), d.Flush())
	if d.Unsure() != 0 {
		t.Errorf("%d unsure", d.Unsure())
	}
	do(t, api.OK, d.Spoil(17), d.Reset(2), d.Write(16, fill(4, 2)), d.Write(27, fill(5, 2)), d.Write(5, fill(6, 1)), d.Write(5, fill(7, 1)))
	has(t, d, 16, 2, 4)
	refuses(t, d, 18, 1, api.ErrOrder)
	if d.Unsure() != 2+2+1 {
		t.Errorf("%d unsure", d.Unsure())
	}
	is(t, d, 3, api.ZoneImplicit, 5)
	do(t, api.OK, d.Crash(nil, nil))
	is(t, d, 2, api.ZoneEmpty, 0)
	is(t, d, 3, api.ZoneClosed, 3)
	has(t, d, 24, 3, 2)
	has(t, d, 5, 1, 3)
	do(t, api.OK, d.Open(3), d.Flush(), d.Write(0, fill(1, 1)), d.Flush())
	is(t, d, 3, api.ZoneExplicit, 3)
	is(t, d, 0, api.ZoneFree, 0)
	do(t, api.OK, d.Reset(3), d.Reset(3), d.Crash(nil, []int{9, 9, 9, 9}))
	is(t, d, 3, api.ZoneEmpty, 0)
}

// P6.3: what a crash keeps of conventional sectors.
func TestCrashConv(t *testing.T) {
	for back, want := range map[int]byte{math.MinInt: 1, -1: 1, 0: 4, 1: 3, 2: 2, 3: 1, 4: 1, math.MaxInt: 1} {
		d := disk(t, 4)
		do(t, api.OK, d.Write(3, fill(9, 1)), d.Write(3, fill(1, 1)), d.Flush())
		for c := byte(2); c < 5; c++ {
			do(t, api.OK, d.Write(3, fill(c, 1)), d.Write(15, fill(c, 1)), d.Write(4, fill(c, 1)))
		}
		f := d.Fork()
		do(t, api.OK, d.Crash([]api.Keep{{Sector: 3, Back: back}, {Sector: 15, Back: 3}, {Sector: 3, Back: 1}, {Sector: 9, Back: 0}}, nil))
		has(t, d, 3, 1, want)
		has(t, d, 15, 1, 0)
		has(t, d, 4, 1, 0)
		has(t, d, 9, 1, 0)
		// What is kept is sure.
		do(t, api.OK, d.Write(3, fill(8, 1)))
		if d.Unsure() != 1 {
			t.Errorf("%d unsure", d.Unsure())
		}
		do(t, api.OK, d.Crash(nil, nil))
		has(t, d, 3, 1, want)

		for _, sector := range []int{math.MinInt, -1, 16, 17, 47, 48, math.MaxInt} {
			do(t, api.ErrArg, f.Crash([]api.Keep{{Sector: 3, Back: 3}, {Sector: sector}}, []int{1}))
		}
		has(t, f, 3, 1, 4)
		if f.Unsure() != 3 {
			t.Errorf("%d unsure", f.Unsure())
		}
	}
}

// P6.3, P6.5: what a crash keeps of sequential zones, and in which state.
func TestCrashSeq(t *testing.T) {
	for prefix, want := range map[int]int{math.MinInt: 3, -1: 3, 0: 3, 1: 4, 3: 6, 4: 7, 5: 7, math.MaxInt: 7} {
		d := disk(t, 4)
		do(t, api.OK, d.Write(24, fill(1, 3)), d.Flush(), d.Write(27, fill(2, 4)))
		do(t, api.OK, d.Crash(nil, []int{9, prefix}))
		is(t, d, 3, api.ZoneClosed, want)
		has(t, d, 24, 3, 1)
		if want > 3 {
			has(t, d, 27, want-3, 2)
		}
		refuses(t, d, 24, want+1, api.ErrOrder)
		if d.Unsure() != 0 || d.Opens() != 0 {
			t.Errorf("%d unsure, %d open", d.Unsure(), d.Opens())
		}
		do(t, api.OK, d.Crash(nil, nil))
		is(t, d, 3, api.ZoneClosed, want)
		do(t, api.OK, d.Write(24+want, fill(3, 1)))
		has(t, d, 24+want, 1, 3)
	}
}

// P6.3: which zones are full, empty, closed, or hurt behind a crash.
func TestCrashStates(t *testing.T) {
	d := pair(t, api.Shape{Conv: 1, Seq: 9, Len: 8, Limit: 9}).d
	at := func(i int) int { return 8 * i }
	do(t, api.OK, d.Write(at(1), fill(1, 2)), d.Finish(1), d.Finish(2), d.Flush()) // sure to be full
	do(t, api.OK, d.Write(at(3), fill(1, 2)), d.Finish(3), d.Finish(4))            // not sure
	do(t, api.OK, d.Write(at(5), fill(1, 8)), d.Write(at(6), fill(1, 8)))
	do(t, api.OK, d.Open(7), d.Write(at(8), fill(1, 3)), d.Write(at(9), fill(1, 3)))
	do(t, api.OK, d.Hurt(8, api.ZoneReadOnly), d.Hurt(9, api.ZoneOffline), d.Hurt(0, api.ZoneReadOnly))
	do(t, api.OK, d.Crash(nil, []int{0, 0, 1, 0, 8, 7, 0, 2, 0}))
	is(t, d, 0, api.ZoneReadOnly, 0)
	is(t, d, 1, api.ZoneFull, 2)
	is(t, d, 2, api.ZoneFull, 0)
	is(t, d, 3, api.ZoneClosed, 1)
	is(t, d, 4, api.ZoneEmpty, 0)
	is(t, d, 5, api.ZoneFull, 8)
	is(t, d, 6, api.ZoneClosed, 7)
	is(t, d, 7, api.ZoneEmpty, 0)
	is(t, d, 8, api.ZoneReadOnly, 2)
	is(t, d, 9, api.ZoneOffline, 0)
	has(t, d, at(8), 2, 1)
	do(t, api.OK, d.Crash(nil, nil))
	is(t, d, 5, api.ZoneFull, 8)
	// A zone that was full, and is so no more.
	do(t, api.OK, d.Reset(1), d.Write(at(1), fill(1, 1)), d.Crash(nil, []int{1}))
	is(t, d, 1, api.ZoneClosed, 1)
	// It was sure that it is full; nothing of it is written behind the reset.
	do(t, api.OK, d.Finish(1), d.Flush(), d.Reset(1), d.Crash(nil, nil))
	is(t, d, 1, api.ZoneEmpty, 0)
}

// P6.3: zones that are hurt.
func TestHurt(t *testing.T) {
	d := disk(t, 4)
	do(t, api.OK, d.Write(16, fill(1, 3)), d.Write(3, fill(2, 1)))
	do(t, api.ErrArg, d.Hurt(2, api.ZoneFull), d.Hurt(2, -1), d.Hurt(2, 8), d.Hurt(0, api.ZoneFree))
	do(t, api.OK, d.Hurt(2, api.ZoneReadOnly), d.Hurt(0, api.ZoneReadOnly))
	do(t, api.ErrState, d.Hurt(2, api.ZoneReadOnly), d.Write(19, fill(1, 1)), d.Write(3, fill(1, 1)), d.Open(2), d.Close(2), d.Finish(2), d.Reset(2))
	do(t, api.ErrKind, d.Open(0), d.Close(0), d.Finish(0), d.Reset(0))
	has(t, d, 16, 3, 1)
	has(t, d, 3, 1, 2)
	do(t, api.OK, d.Hurt(2, api.ZoneOffline), d.Hurt(0, api.ZoneOffline), d.Hurt(1, api.ZoneOffline))
	do(t, api.ErrState, d.Hurt(2, api.ZoneReadOnly), d.Hurt(2, api.ZoneOffline), d.Hurt(1, api.ZoneReadOnly))
	refuses(t, d, 16, 1, api.ErrState)
	refuses(t, d, 3, 1, api.ErrState)
	refuses(t, d, 7, 2, api.ErrState)
	refuses(t, d, 16, 0, api.ErrArg)
	do(t, api.OK, d.Flush(), d.Crash(nil, nil))
	is(t, d, 2, api.ZoneOffline, 3)
	is(t, d, 1, api.ZoneOffline, 0)
}

// P6.1 to P6.3: sectors that are spoiled.
func TestSpoil(t *testing.T) {
	d := disk(t, 4)
	do(t, api.ErrArg, d.Spoil(math.MinInt), d.Spoil(-1), d.Spoil(48), d.Spoil(math.MaxInt))
	do(t, api.OK, d.Write(16, fill(1, 3)), d.Write(24, fill(1, 3)), d.Write(32, fill(1, 1)), d.Finish(4))
	do(t, api.ErrNone, d.Spoil(19), d.Spoil(23), d.Spoil(40), d.Spoil(33))
	do(t, api.OK, d.Spoil(17), d.Spoil(26), d.Spoil(0), d.Spoil(15), d.Spoil(32))
	do(t, api.ErrNone, d.Spoil(17), d.Spoil(0), d.Spoil(15))
	refuses(t, d, 16, 2, api.ErrMedia)
	refuses(t, d, 17, 2, api.ErrMedia)
	refuses(t, d, 16, 4, api.ErrOrder)
	refuses(t, d, 0, 8, api.ErrMedia)
	refuses(t, d, 8, 8, api.ErrMedia)
	refuses(t, d, 32, 1, api.ErrMedia)
	has(t, d, 16, 1, 1)
	has(t, d, 18, 1, 1)
	has(t, d, 1, 7, 0)

	do(t, api.OK, d.Write(0, fill(5, 1)), d.Flush(), d.Write(15, fill(6, 1)), d.Spoil(0))
	refuses(t, d, 0, 1, api.ErrMedia)
	do(t, api.OK, d.Crash(nil, nil))
	refuses(t, d, 0, 1, api.ErrMedia) // it stays so behind a crash
	refuses(t, d, 17, 1, api.ErrMedia)
	has(t, d, 15, 1, 0) // that it was written stays, too, but not with what
	do(t, api.OK, d.Reset(2), d.Write(16, fill(2, 3)))
	has(t, d, 16, 3, 2)

	// One that a crash took is written anew.
	do(t, api.OK, d.Write(40, fill(1, 3)), d.Spoil(41), d.Crash(nil, []int{0, 0, 0, 1}))
	do(t, api.ErrNone, d.Spoil(41))
	refuses(t, d, 41, 1, api.ErrOrder)
	do(t, api.OK, d.Write(41, fill(3, 1)))
	has(t, d, 41, 1, 3)
	// A write that fails mends nothing.
	do(t, api.OK, d.Fail(1))
	do(t, api.ErrMedia, d.Write(0, fill(7, 1)))
	refuses(t, d, 0, 1, api.ErrMedia)
	do(t, api.OK, d.Write(0, fill(7, 2)))
	has(t, d, 0, 2, 7)
}

// P6.3: writes that fail.
func TestFail(t *testing.T) {
	d := disk(t, 4)
	do(t, api.ErrArg, d.Fail(-1), d.Fail(math.MinInt))
	do(t, api.OK, d.Fail(3), d.Fail(2))
	do(t, api.ErrOrder, d.Write(17, fill(1, 1)))
	do(t, api.ErrArg, d.Write(17, nil), d.Fail(-1))
	do(t, api.OK, d.Flush(), d.Open(2), d.Close(2), d.Finish(4), d.Reset(4))
	has(t, d, 0, 1, 0)
	do(t, api.ErrMedia, d.Write(16, fill(1, 1)), d.Write(3, fill(1, 1)))
	is(t, d, 2, api.ZoneEmpty, 0)
	has(t, d, 3, 1, 0)
	if d.Unsure() != 0 {
		t.Errorf("%d unsure", d.Unsure())
	}
	do(t, api.OK, d.Write(16, fill(1, 1)), d.Fail(5), d.Fail(0), d.Write(3, fill(1, 1)))
	do(t, api.OK, d.Fail(math.MaxInt))
	do(t, api.ErrMedia, d.Write(3, fill(2, 1)), d.Write(3, fill(2, 1)))
	do(t, api.OK, d.Crash(nil, nil), d.Write(3, fill(2, 1)))
	has(t, d, 3, 1, 2)
}

// P6.3: the power goes, and comes back.
func TestStop(t *testing.T) {
	d := disk(t, 4)
	do(t, api.OK, d.Stop(6))
	steps := []func() api.Errno{
		func() api.Errno { return d.Write(16, fill(1, 1)) },
		func() api.Errno { return d.Open(2) },
		func() api.Errno { return d.Close(2) },
		func() api.Errno { return d.Finish(2) },
		func() api.Errno { return d.Reset(2) },
		func() api.Errno { return d.Flush() },
	}
	for _, step := range steps {
		// Reads and what is refused do not count, nor do faults.
		has(t, d, 0, 3, 0)
		do(t, api.ErrArg, d.Open(9), d.Write(0, nil))
		do(t, api.ErrKind, d.Open(0))
		do(t, api.ErrOrder, d.Write(47, fill(1, 1)))
		do(t, api.OK, d.Fail(1))
		do(t, api.ErrMedia, d.Write(0, fill(1, 1)))
		if d.Off() {
			t.Fatal("off too early")
		}
		do(t, api.OK, step())
	}
	if !d.Off() {
		t.Fatal("not off")
	}
	off(t, d)
	do(t, api.OK, d.Crash(nil, nil))
	if d.Off() {
		t.Error("off behind a crash")
	}
	has(t, d, 0, 1, 0)
	do(t, api.OK, d.Flush(), d.Stop(1), d.Stop(2), d.Flush())
	if d.Off() {
		t.Error("the second Stop does not hold")
	}
	do(t, api.OK, d.Stop(-1), d.Flush(), d.Flush(), d.Stop(1), d.Stop(math.MinInt), d.Flush())
	do(t, api.OK, d.Stop(2), d.Crash(nil, nil), d.Flush(), d.Flush(), d.Flush())
	if d.Off() {
		t.Error("off, though it was not to go")
	}
	do(t, api.OK, d.Stop(0))
	if !d.Off() {
		t.Error("not off at once")
	}
	off(t, d)
}

// off wants a disk to refuse all commands, whatever they are given, and to do
// all else as ever.
func off(t *testing.T, d *zdisk.Disk) {
	t.Helper()
	f := d.Fork()
	if !f.Off() {
		t.Error("a fork that is not off")
	}
	cmds := slices.Collect(d.Cmds())
	for _, n := range []int{math.MinInt, -1, 0, 1, 3, 48, math.MaxInt} {
		refuses(t, f, n, 1, api.ErrOff)
		refuses(t, f, 0, n, api.ErrOff)
		do(t, api.ErrOff, f.Write(n, fill(1, 1)), f.Write(n, nil), f.Open(n), f.Close(n), f.Finish(n), f.Reset(n), f.Flush())
	}
	if !slices.Equal(slices.Collect(f.Cmds()), cmds) {
		t.Error("what a disk that is off is given is a command")
	}
	do(t, api.OK, f.Stop(-1), f.Stop(0), f.Stop(4), f.Hurt(5, api.ZoneOffline), f.Spoil(2), f.Fail(2))
	do(t, api.ErrArg, f.Fail(-1), f.Spoil(99), f.Hurt(9, api.ZoneOffline), f.Crash([]api.Keep{{Sector: -1}}, nil))
	is(t, f, 5, api.ZoneOffline, 0)
	if !f.Off() {
		t.Error("back without a crash")
	}
	do(t, api.OK, f.Crash(nil, nil), f.Write(0, fill(1, 1)), f.Flush(), f.Flush(), f.Flush(), f.Flush())
	refuses(t, f, 2, 1, api.ErrMedia)
	if f.Off() {
		t.Error("off behind a crash")
	}
}

// P6.4: commands, as they were given.
func TestCmds(t *testing.T) {
	d := disk(t, 1)
	cmds := d.Cmds()
	if len(slices.Collect(cmds)) != 0 {
		t.Error("commands ahead of the first")
	}
	d.Write(16, fill(1, 3))
	d.Write(24, fill(1, 2)) // zone 2 is closed for its sake
	d.Read(17, 2)
	d.Read(-5, 7)
	d.Read(47, -3)
	d.Write(48, make([]byte, 300))
	d.Write(5, make([]byte, 129))
	d.Write(5, nil)
	d.Open(-7)
	d.Open(3)
	d.Write(19, fill(1, 1))
	d.Close(3)
	d.Finish(2)
	d.Flush()
	d.Reset(2)
	d.Reset(0)
	d.Hurt(0, api.ZoneOffline)
	d.Spoil(3)
	d.Fail(1)
	d.Write(32, fill(1, 1))
	d.Crash(nil, []int{0, 1})
	d.Read(0, 1)
	d.Reset(99)
	want := []api.Cmd{
		{Kind: api.CmdWrite, Zone: 2, At: 16, N: 3, State: api.ZoneEmpty},
		{Kind: api.CmdWrite, Zone: 3, At: 24, N: 2, State: api.ZoneEmpty, Opens: 1},
		{Kind: api.CmdRead, Zone: 2, At: 17, N: 2, State: api.ZoneClosed, Written: 3, Opens: 1},
		{Kind: api.CmdRead, Zone: -1, At: -5, N: 7, Code: api.ErrArg, Opens: 1},
		{Kind: api.CmdRead, Zone: 5, At: 47, N: -3, Code: api.ErrArg, State: api.ZoneEmpty, Opens: 1},
		{Kind: api.CmdWrite, Zone: -1, At: 48, N: 2, Code: api.ErrArg, Opens: 1},
		{Kind: api.CmdWrite, Zone: 0, At: 5, N: 1, Code: api.ErrArg, Opens: 1},
		{Kind: api.CmdWrite, Zone: 0, At: 5, Code: api.ErrArg, Opens: 1},
		{Kind: api.CmdOpen, Zone: -1, Code: api.ErrArg, Opens: 1},
		{Kind: api.CmdOpen, Zone: 3, State: api.ZoneImplicit, Written: 2, Opens: 1},
		{Kind: api.CmdWrite, Zone: 2, At: 19, N: 1, Code: api.ErrLimit, State: api.ZoneClosed, Written: 3, Opens: 1},
		{Kind: api.CmdClose, Zone: 3, State: api.ZoneExplicit, Written: 2, Opens: 1},
		{Kind: api.CmdFinish, Zone: 2, State: api.ZoneClosed, Written: 3},
		{Kind: api.CmdFlush, Zone: -1},
		{Kind: api.CmdReset, Zone: 2, State: api.ZoneFull, Written: 3},
		{Kind: api.CmdReset, Zone: 0, Code: api.ErrKind},
		{Kind: api.CmdWrite, Zone: 4, At: 32, N: 1, Code: api.ErrMedia, State: api.ZoneEmpty},
		{Kind: api.CmdRead, Zone: 0, At: 0, N: 1, Code: api.ErrState, State: api.ZoneOffline},
		{Kind: api.CmdReset, Zone: -1, Code: api.ErrArg},
	}
	// An iterator begins anew, may be stopped, and is as the disk is by now.
	for range 2 {
		if got := slices.Collect(cmds); !slices.Equal(got, want) {
			t.Errorf("%v", got)
		}
		for c := range cmds {
			if c != want[0] {
				t.Error(c)
			}
			break
		}
	}
	f := d.Fork()
	d.Flush()
	f.Open(3)
	if got := slices.Collect(f.Cmds()); len(got) != len(want)+1 || got[len(want)].Kind != api.CmdOpen {
		t.Errorf("a fork's commands: %v", got)
	}
	if got := slices.Collect(cmds); len(got) != len(want)+1 || got[len(want)].Kind != api.CmdFlush {
		t.Errorf("%v", got)
	}
}

// P6.4: a fork is the same, with faults and what is unsure, and goes its own way.
func TestFork(t *testing.T) {
	d := disk(t, 2)
	for c := byte(1); c < 4; c++ {
		do(t, api.OK, d.Write(3, fill(c, 1)))
	}
	do(t, api.OK, d.Write(16, fill(1, 3)), d.Spoil(17), d.Fail(1), d.Stop(2))
	f, g := d.Fork(), d.Fork()
	for i, x := range []*zdisk.Disk{f, d} {
		do(t, api.ErrMedia, x.Write(3, fill(9, 1)))
		do(t, api.OK, x.Write(3, fill(9+byte(i), 1)), x.Write(19, fill(9+byte(i), 1)))
		if !x.Off() {
			t.Error("not off")
		}
		do(t, api.OK, x.Crash([]api.Keep{{Sector: 3}}, []int{4}))
		has(t, x, 3, 1, 9+byte(i))
		has(t, x, 19, 1, 9+byte(i))
		refuses(t, x, 17, 1, api.ErrMedia)
		do(t, api.OK, x.Reset(2), x.Spoil(3))
	}
	// g has all that was there, but none of that.
	has(t, g, 3, 1, 3)
	refuses(t, g, 17, 1, api.ErrMedia)
	do(t, api.OK, g.Crash([]api.Keep{{Sector: 3, Back: 2}}, []int{1}))
	has(t, g, 3, 1, 1)
	is(t, g, 2, api.ZoneClosed, 1)
}

// P6.4: two disks, one forked of the other, each with contents of its own
// behind those that both have, however many these are.
func TestForkUnsure(t *testing.T) {
	for many := range 20 {
		d := disk(t, 2)
		for c := range many {
			do(t, api.OK, d.Write(3, fill(byte(c+1), 1)))
		}
		f := d.Fork()
		for c := byte(100); c < 103; c++ {
			do(t, api.OK, d.Write(3, fill(c, 1)), f.Write(3, fill(c+100, 1)))
		}
		for back := range 3 {
			x, y := d.Fork(), f.Fork()
			keep := []api.Keep{{Sector: 3, Back: back}}
			do(t, api.OK, x.Crash(keep, nil), y.Crash(keep, nil))
			has(t, x, 3, 1, byte(102-back))
			has(t, y, 3, 1, byte(202-back))
		}
	}
}

// P6.4: what a nil disk answers.
func TestNil(t *testing.T) {
	var d *zdisk.Disk
	if z, e := d.Zone(0); z != (api.Zone{}) || e != api.ErrClosed {
		t.Error(z, e)
	}
	refuses(t, d, 0, 1, api.ErrClosed)
	refuses(t, d, -1, -1, api.ErrClosed)
	do(t, api.ErrClosed, d.Write(0, fill(1, 1)), d.Write(-1, nil), d.Open(0), d.Close(-1), d.Finish(0), d.Reset(0), d.Flush())
	do(t, api.ErrClosed, d.Crash(nil, nil), d.Crash([]api.Keep{{Sector: -1}}, []int{1}), d.Hurt(0, api.ZoneOffline), d.Hurt(-1, 0), d.Spoil(0), d.Spoil(-1), d.Fail(1), d.Fail(-1), d.Stop(0), d.Stop(-1))
	if d.Shape() != (api.Shape{}) || d.Off() || d.Opens() != 0 || d.Unsure() != 0 || d.Fork() != nil {
		t.Error("a nil disk has something")
	}
	for c := range d.Cmds() {
		t.Error(c)
	}
}

// Example 1 of the chapter.
func TestExample(t *testing.T) {
	d := pair(t, api.Shape{Conv: 1, Seq: 2, Len: 4, Limit: 1}).d
	do(t, api.OK, d.Write(4, fill(1, 1)), d.Write(8, fill(1, 1)))
	is(t, d, 1, api.ZoneClosed, 1)
	do(t, api.OK, d.Open(1))
	do(t, api.ErrLimit, d.Write(9, fill(1, 1)))
}
