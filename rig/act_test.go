package rig_test

import (
	"bytes"
	"math"
	"slices"
	"testing"

	"thatch/api"
	"thatch/rig"
)

// zeros is a sector of bytes 0; one is the only sector of a request of b.
func zeros() []byte { return make([]byte, 128) }

func one(b byte) []byte { return plainData(b, 1) }

// has wants what the model says of a sector.
func has(t *testing.T, r *rig.Rig, at int, now, behind [][]byte) {
	t.Helper()
	m := r.Model()
	if got := m.Now(at); !slices.EqualFunc(got, now, bytes.Equal) {
		t.Errorf("sector %d: now %d contents, not %d", at, len(got), len(now))
	}
	if got := m.Behind(at); !slices.EqualFunc(got, behind, bytes.Equal) {
		t.Errorf("sector %d: behind a crash %d contents, not %d", at, len(got), len(behind))
	}
}

type contents = [][]byte

// P26.1: writes, with fua and without, discards and flushes are noted.
func TestRequests(t *testing.T) {
	r := newRig(t, small, fifo)
	do(t, r, api.Act{Kind: api.ActWrite, At: 4, N: 3, B: 9})
	data := plainData(9, 3)
	for i := range 3 {
		x := data[i*128 : (i+1)*128]
		has(t, r, 4+i, contents{x}, contents{zeros(), x})
		if b, e := r.Device().Read(4+i, 1); e != api.OK || !bytes.Equal(b, x) {
			t.Error("not written", i, e)
		}
	}
	has(t, r, 3, contents{zeros()}, contents{zeros()})
	has(t, r, 7, contents{zeros()}, contents{zeros()})
	do(t, r, api.Act{Kind: api.ActDiscard, At: 5, N: 1})
	has(t, r, 5, contents{zeros()}, contents{zeros(), data[128:256]})
	do(t, r, api.Act{Kind: api.ActForce, At: 20, N: 1, B: 10})
	has(t, r, 20, contents{one(10)}, contents{one(10)})
	has(t, r, 5, contents{zeros()}, contents{zeros()})
	if r.Device().Status().Pending != 0 {
		t.Error("not forced")
	}
	do(t, r, api.Act{Kind: api.ActWrite, At: 32, N: 1, B: 1})
	if r.Device().Status().Pending != 1 {
		t.Error("forced")
	}
	do(t, r, api.Act{Kind: api.ActFlush})
	has(t, r, 32, contents{one(1)}, contents{one(1)})
	if r.Device().Status().Pending != 0 || r.Wrong() || !r.Sweep() {
		t.Error("not flushed")
	}
}

// P26.1: requests that are refused.
func TestRefused(t *testing.T) {
	r := newRig(t, small, fifo)
	for _, kind := range []int{api.ActWrite, api.ActForce} {
		for n, want := range map[int]api.Errno{
			math.MinInt: api.ErrArg, -1: api.ErrArg, 0: api.ErrArg, 9: api.ErrLong, 33: api.ErrLong, 34: api.ErrRange,
			4096: api.ErrRange, 4097: api.ErrArg, 1 << 50: api.ErrArg, math.MaxInt: api.ErrArg,
		} {
			tell(t, r, api.Act{Kind: kind, N: n, B: 3}, want)
		}
		tell(t, r, api.Act{Kind: kind, At: 33, N: 1}, api.ErrRange)
		tell(t, r, api.Act{Kind: kind, At: -1, N: 1}, api.ErrRange)
		tell(t, r, api.Act{Kind: kind, At: math.MinInt, N: 4096}, api.ErrRange)
	}
	for _, kind := range []int{api.ActRead, api.ActDiscard} {
		for _, x := range [][2]int{{0, 0}, {0, -1}, {0, 34}, {33, 1}, {-1, 1}, {-1, 4}, {32, 2}, {math.MaxInt, math.MaxInt}, {0, math.MinInt}} {
			tell(t, r, api.Act{Kind: kind, At: x[0], N: x[1]}, api.ErrRange)
		}
	}
	tell(t, r, api.Act{Kind: api.ActPolicy, N: 3}, api.ErrArg)
	tell(t, r, api.Act{Kind: api.ActPolicy}, api.ErrArg)
	for _, kind := range []int{math.MinInt, -1, 0, 15, 16, 99, math.MaxInt} {
		tell(t, r, api.Act{Kind: kind, At: 1, N: 1, B: 1}, api.ErrArg)
	}
	for at := range 33 {
		has(t, r, at, contents{zeros()}, contents{zeros()})
	}
	if r.Wrong() || r.Faulty() || !r.Sweep() || len(r.Parts()) != 1 {
		t.Error("something has happened")
	}
}

// P26.1: what is told where there is no device; ErrArg of a request goes ahead.
func TestNoDevice(t *testing.T) {
	r := newRig(t, small, fifo)
	do(t, r, api.Act{Kind: api.ActWrite, At: 2, N: 1, B: 7}, api.Act{Kind: api.ActUnmount})
	n := len(commands(r.Disk()))
	for _, a := range []api.Act{
		{Kind: api.ActWrite, N: 1}, {Kind: api.ActForce, N: 1}, {Kind: api.ActWrite}, {Kind: api.ActWrite, N: 4096}, {Kind: api.ActRead, N: 1},
		{Kind: api.ActRead, N: -1}, {Kind: api.ActDiscard, N: 1}, {Kind: api.ActDiscard, At: -1}, {Kind: api.ActFlush}, {Kind: api.ActStep, N: 1}, {Kind: api.ActStep},
		{Kind: api.ActStep, N: -1}, {Kind: api.ActPolicy, N: 1}, {Kind: api.ActPolicy}, {Kind: api.ActUnmount},
	} {
		tell(t, r, a, api.ErrClosed)
	}
	tell(t, r, api.Act{Kind: api.ActWrite, N: -1}, api.ErrArg)
	tell(t, r, api.Act{Kind: api.ActForce, N: 4097}, api.ErrArg)
	tell(t, r, api.Act{Kind: 0}, api.ErrArg)
	has(t, r, 0, contents{zeros()}, contents{zeros()})
	has(t, r, 2, contents{one(7)}, contents{one(7)})
	if r.Device() != nil || r.Wrong() || !r.Sweep() || len(commands(r.Disk())) != n {
		t.Error("something has happened")
	}
	// Nor is a crash noted.
	r.Model().Wrote(9, zeros(), false, api.OK)
	r.Model().Wrote(9, one(7), false, api.OK)
	tell(t, r, api.Act{Kind: api.ActUnmount}, api.ErrClosed)
	has(t, r, 9, contents{one(7)}, contents{zeros(), one(7)})
	r.Model().Wrote(9, zeros(), true, api.OK)
	do(t, r, api.Act{Kind: api.ActMount})
	tell(t, r, api.Act{Kind: api.ActMount}, api.ErrTwice)
	do(t, r, api.Act{Kind: api.ActRead, At: 2, N: 1})
	// One that was put away by itself is still one; it tells ErrClosed.
	r.Device().Unmount()
	tell(t, r, api.Act{Kind: api.ActRead, At: 2, N: 1}, api.ErrClosed)
	tell(t, r, api.Act{Kind: api.ActStep, N: 1}, api.ErrClosed)
	tell(t, r, api.Act{Kind: api.ActMount}, api.ErrTwice)
	if r.Wrong() || !r.Sweep() || r.Device() == nil {
		t.Error("wrong")
	}
	tell(t, r, api.Act{Kind: api.ActUnmount}, api.ErrClosed)
	if r.Device() != nil {
		t.Error("still a device")
	}
}

// P26.1: what a read told is noted; where it may not be, the rig is wrong for ever.
func TestWrong(t *testing.T) {
	r := newRig(t, small, fifo)
	r.Model().Wrote(6, one(5), false, api.ErrIO)
	has(t, r, 6, contents{zeros(), one(5)}, contents{zeros(), one(5)})
	do(t, r, api.Act{Kind: api.ActRead, At: 6, N: 1})
	has(t, r, 6, contents{zeros()}, contents{zeros(), one(5)})
	r.Model().Wrote(8, one(5), false, api.OK)
	if r.Sweep() || !r.Wrong() {
		t.Error("a sweep sees nothing")
	}
	// The others are read all the same.
	r.Model().Wrote(9, one(6), false, api.ErrIO)
	if r.Sweep() || len(r.Model().Now(9)) != 1 {
		t.Error("a sweep ends at what is wrong")
	}
	do(t, r, api.Act{Kind: api.ActWrite, At: 8, N: 1, B: 5}, api.Act{Kind: api.ActRead, At: 8, N: 1}, api.Act{Kind: api.ActUnmount})
	if !r.Wrong() || r.Sweep() || r.Faulty() {
		t.Error("not wrong any more")
	}
	for _, at := range []int{0, 17, 32} {
		// One of several sectors; behind the model's back; and read alone.
		for _, a := range []api.Act{{Kind: api.ActRead, N: 33}, {Kind: api.ActRead, At: at, N: 1}} {
			r := newRig(t, small, fifo)
			if e := r.Device().Write(at, one(1), false); e != api.OK {
				t.Fatal(e)
			}
			if r.Wrong() {
				t.Error("wrong ahead of a read")
			}
			do(t, r, a)
			if !r.Wrong() || r.Sweep() {
				t.Error(at, a, "is not wrong")
			}
		}
		r := newRig(t, small, fifo)
		r.Device().Write(at, one(1), false)
		if r.Sweep() || !r.Wrong() {
			t.Error(at, "is not swept")
		}
		r = newRig(t, small, fifo)
		r.Device().Write(at, one(1), false)
		do(t, r, api.Act{Kind: api.ActRead, At: (at + 1) % 33, N: 1})
		if r.Wrong() {
			t.Error("another sector is wrong")
		}
	}
}

// P26.1: a read that is refused is wrong, where nothing was let fail, the sectors
// are the device's, and there is a device and power.
func TestWrongRefused(t *testing.T) {
	spoilt := func(by func(r *rig.Rig, at int)) *rig.Rig {
		r := newRig(t, small, fifo)
		do(t, r, api.Act{Kind: api.ActForce, At: 3, N: 2, B: 8})
		zone, off, e := r.Device().Where(4)
		if e != api.OK {
			t.Fatal(e)
		}
		by(r, zone*small.Len+off)
		return r
	}
	byHand := func(r *rig.Rig, at int) { r.Disk().Spoil(at) }
	r := spoilt(byHand)
	for _, x := range [][2]int{{4, 30}, {4, 0}, {4, -1}, {-1, 6}, {3, 1}, {5, 28}} {
		r.Do(api.Act{Kind: api.ActRead, At: x[0], N: x[1]})
	}
	if r.Wrong() {
		t.Error("wrong, where the sectors are not the device's, or can be read")
	}
	tell(t, r, api.Act{Kind: api.ActRead, At: 4, N: 1}, api.ErrIO)
	if !r.Wrong() || r.Faulty() || r.Sweep() {
		t.Error("not wrong")
	}
	r = spoilt(byHand)
	if r.Sweep() {
		t.Error("a sweep finds nothing wrong")
	}
	r = spoilt(func(r *rig.Rig, at int) { do(t, r, api.Act{Kind: api.ActSpoil, At: at}) })
	tell(t, r, api.Act{Kind: api.ActRead, At: 4, N: 1}, api.ErrIO)
	if r.Wrong() || !r.Faulty() || !r.Sweep() {
		t.Error("wrong, though it was let fail")
	}
	// Something else was let fail: it is faulty all the same. What is wrong by what
	// is told is so in a faulty one, too.
	r = spoilt(byHand)
	do(t, r, api.Act{Kind: api.ActFail})
	tell(t, r, api.Act{Kind: api.ActRead, At: 4, N: 1}, api.ErrIO)
	if r.Wrong() {
		t.Error("wrong, though it is faulty")
	}
	r.Model().Wrote(3, one(5), false, api.OK)
	if r.Sweep() {
		t.Error("not wrong")
	}
	r = spoilt(byHand)
	do(t, r, api.Act{Kind: api.ActStop})
	tell(t, r, api.Act{Kind: api.ActRead, At: 4, N: 1}, api.ErrOff)
	if !r.Sweep() {
		t.Error("wrong, though the power is gone")
	}
	do(t, r, api.Act{Kind: api.ActCrash})
	tell(t, r, api.Act{Kind: api.ActRead, At: 4, N: 1}, api.ErrClosed)
	if !r.Sweep() {
		t.Error("wrong, though there is no device")
	}
}

// readOnly is a rig of which the device is read-only, and sector 3 perhaps
// written.
func readOnly(t *testing.T) *rig.Rig {
	t.Helper()
	r := newRig(t, small, fifo)
	do(t, r, api.Act{Kind: api.ActHurt, N: api.ZoneReadOnly}, api.Act{Kind: api.ActHurt, Zone: 1, N: api.ZoneReadOnly})
	tell(t, r, api.Act{Kind: api.ActForce, At: 3, N: 1, B: 6}, api.ErrReadOnly)
	if !r.Device().Status().ReadOnly {
		t.Fatal("not read-only")
	}
	return r
}

// P26.1: what a device tells that is read-only is not noted, since it need not
// last; but it may be wrong.
func TestReadOnly(t *testing.T) {
	r := readOnly(t)
	both := contents{zeros(), one(6)}
	has(t, r, 3, both, both)
	do(t, r, api.Act{Kind: api.ActRead, At: 3, N: 1}, api.Act{Kind: api.ActRead, N: 33})
	if !r.Sweep() {
		t.Error("wrong")
	}
	has(t, r, 3, both, both)
	tell(t, r, api.Act{Kind: api.ActRead, N: 34}, api.ErrRange)
	for _, at := range []int{0, 3, 32} {
		for _, a := range []api.Act{{Kind: api.ActRead, N: 33}, {Kind: api.ActRead, At: at, N: 1}} {
			r := readOnly(t)
			r.Model().Wrote(at, one(77), false, api.OK)
			do(t, r, a)
			if !r.Wrong() {
				t.Error(at, "is not wrong")
			}
			has(t, r, at, contents{one(77)}, r.Model().Behind(at))
		}
	}
}

// P26.1: as many steps as are told, up to the first that has nothing to do, or
// fails.
func TestSteps(t *testing.T) {
	full := func() *rig.Rig {
		r := newRig(t, small, fifo)
		for i := 0; ; i++ {
			switch e := r.Do(api.Act{Kind: api.ActWrite, At: 3 * i % 28, N: 5, B: byte(i)}); e {
			case api.OK:
			case api.ErrBusy:
				return r
			default:
				t.Fatal(e)
			}
		}
	}
	other, r := full(), full()
	jobs := 0
	for n := range 40 {
		do(t, r, api.Act{Kind: api.ActStep, N: n % 5})
		for range n % 5 {
			is, e := other.Device().Step()
			if e != api.OK {
				t.Fatal(e)
			}
			if is {
				jobs++
			}
		}
		if r.Device().Status() != other.Device().Status() || !slices.Equal(commands(r.Disk()), commands(other.Disk())) {
			t.Fatalf("behind %d steps: %+v, not %+v", n%5, r.Device().Status(), other.Device().Status())
		}
	}
	if jobs < 8 {
		t.Error(jobs, "steps had something to do")
	}
	for _, n := range []int{0, -1, math.MinInt} {
		r := full()
		was := len(commands(r.Disk()))
		do(t, r, api.Act{Kind: api.ActStep, N: n})
		if len(commands(r.Disk())) != was || r.Device().Status().Job != api.JobIdle {
			t.Error(n, "steps were done")
		}
	}
	// To the end, however many are told.
	r = full()
	do(t, r, api.Act{Kind: api.ActStep, N: math.MaxInt})
	if is, e := r.Device().Step(); is || e != api.OK || r.Device().Status().Cached > 0 {
		t.Error("there is something to do", is, e)
	}
	do(t, r, api.Act{Kind: api.ActStep, N: 9})
	// The first that fails is the last.
	r = full()
	do(t, r, api.Act{Kind: api.ActStep, N: 3}, api.Act{Kind: api.ActFail, N: 1})
	tell(t, r, api.Act{Kind: api.ActStep, N: 9}, api.ErrIO)
	if r.Device().Status().Job != api.JobIdle || !r.Sweep() {
		t.Error("steps behind the one that failed")
	}
	do(t, r, api.Act{Kind: api.ActStop})
	tell(t, r, api.Act{Kind: api.ActStep, N: 9}, api.ErrOff)
	do(t, r, api.Act{Kind: api.ActStep, N: 0})
	tell(t, readOnly(t), api.Act{Kind: api.ActStep, N: 9}, api.ErrReadOnly)
}

// P26.1: 4096 steps at most.
func TestMostSteps(t *testing.T) {
	build := func() *rig.Rig {
		r := newRig(t, g(2, 9, 1024, 2, 2), api.Options{Chunk: 1, Policy: api.PolicyFifo})
		for i := 0; ; i++ {
			e := r.Do(api.Act{Kind: api.ActWrite, At: i % 6 * 1023, N: 8, B: byte(i)})
			if e == api.ErrBusy {
				return r
			}
			if e != api.OK {
				t.Fatal(e)
			}
		}
	}
	a, b := build(), build()
	do(t, a, api.Act{Kind: api.ActStep, N: 9999})
	for range 4096 {
		if is, e := b.Device().Step(); !is || e != api.OK {
			t.Fatal(is, e)
		}
	}
	if a.Device().Status() != b.Device().Status() || !slices.Equal(commands(a.Disk()), commands(b.Disk())) {
		t.Errorf("%+v, not %+v", a.Device().Status(), b.Device().Status())
	}
	do(t, a, api.Act{Kind: api.ActStep, N: 4095})
	for range 4095 {
		b.Device().Step()
	}
	if a.Device().Status() != b.Device().Status() || !slices.Equal(commands(a.Disk()), commands(b.Disk())) {
		t.Errorf("%+v, not %+v", a.Device().Status(), b.Device().Status())
	}
}

// P26.1: a crash takes the device, and is noted; one that is refused is not.
func TestCrash(t *testing.T) {
	r := newRig(t, small, fifo)
	do(t, r, api.Act{Kind: api.ActForce, At: 1, N: 1, B: 1}, api.Act{Kind: api.ActWrite, At: 1, N: 1, B: 2})
	for _, sector := range []int{24, -1, math.MaxInt} {
		tell(t, r, api.Act{Kind: api.ActCrash, Keep: []api.Keep{{Sector: 3}, {Sector: sector}}}, api.ErrArg)
	}
	has(t, r, 1, contents{one(2)}, contents{one(1), one(2)})
	if r.Device() == nil || len(r.Parts()) != 1 {
		t.Fatal("no device any more")
	}
	lost := contents{one(1), one(2)}
	for prefix, want := range map[int][]byte{0: one(1), 2: one(2)} {
		r := newRig(t, small, fifo)
		do(t, r, api.Act{Kind: api.ActForce, At: 1, N: 1, B: 1}, api.Act{Kind: api.ActWrite, At: 1, N: 1, B: 2})
		do(t, r, api.Act{Kind: api.ActCrash, Prefix: []int{prefix}})
		has(t, r, 1, lost, lost)
		if r.Device() != nil || len(r.Parts()) != 2 || !r.Sweep() {
			t.Error("a device still")
		}
		do(t, r, api.Act{Kind: api.ActMount})
		if !r.Sweep() {
			t.Error("wrong")
		}
		has(t, r, 1, contents{want}, contents{want})
	}
	// What Keep names is kept.
	for back, want := range map[int][]byte{-1: zeros(), 0: one(4), 1: one(3), 2: zeros()} {
		r := newRig(t, small, fifo)
		for i := range 2 {
			for b := byte(3); b < 5; b++ {
				if e := r.Disk().Write(22+i, one(b)); e != api.OK {
					t.Fatal(e)
				}
			}
		}
		do(t, r, api.Act{Kind: api.ActCrash, Keep: []api.Keep{{Sector: 23, Back: back}}})
		got, e := r.Disk().Read(23, 1)
		if other, _ := r.Disk().Read(22, 1); e != api.OK || !bytes.Equal(got, want) || !bytes.Equal(other, zeros()) {
			t.Errorf("back %d: %d kept, and %d", back, got[0], other[0])
		}
	}
}

// P26.1: it is mounted with its own options; what the disk refuses is told.
func TestMount(t *testing.T) {
	// Two zones of the cache: the older one has more live sectors than the other.
	picked := func(policy int, between ...api.Act) []api.Cmd {
		r := newRig(t, wide, api.Options{Chunk: 4, Policy: policy})
		for i := range 4 {
			do(t, r, api.Act{Kind: api.ActWrite, At: i * 9, N: 4, B: 1})
		}
		for range 4 {
			do(t, r, api.Act{Kind: api.ActWrite, At: 0, N: 3, B: 2})
		}
		do(t, r, between...)
		from := len(commands(r.Disk()))
		do(t, r, api.Act{Kind: api.ActStep, N: 40})
		return commands(r.Disk())[from:]
	}
	anew := []api.Act{{Kind: api.ActFlush}, {Kind: api.ActCrash}, {Kind: api.ActMount}}
	first, greedy := picked(api.PolicyFifo, anew...), picked(api.PolicyGreedy, anew...)
	if slices.Equal(first, greedy) {
		t.Fatal("both policies are one")
	}
	other := []api.Act{{Kind: api.ActPolicy, N: api.PolicyGreedy}}
	if !slices.Equal(picked(api.PolicyFifo, append(other, anew...)...), first) || !slices.Equal(picked(api.PolicyFifo, append(anew, other...)...), greedy) {
		t.Error("the policy is not that of the options, or is not set")
	}
	r := newRig(t, small, fifo)
	do(t, r, api.Act{Kind: api.ActStop})
	tell(t, r, api.Act{Kind: api.ActMount}, api.ErrTwice)
	tell(t, r, api.Act{Kind: api.ActUnmount}, api.ErrOff)
	tell(t, r, api.Act{Kind: api.ActMount}, api.ErrOff)
	if r.Device() != nil {
		t.Error("a device")
	}
	do(t, r, api.Act{Kind: api.ActCrash}, api.Act{Kind: api.ActMount}, api.Act{Kind: api.ActUnmount})
	do(t, r, api.Act{Kind: api.ActSpoil, At: 0}, api.Act{Kind: api.ActSpoil, At: 1})
	tell(t, r, api.Act{Kind: api.ActMount}, api.ErrMedia)
	if r.Device() != nil || !r.Sweep() || len(r.Parts()) != 2 {
		t.Error("a device")
	}
}

// P26.1: behind Unmount there is no device; that it was OK is noted as a flush,
// that it was not as a crash.
func TestUnmount(t *testing.T) {
	write := []api.Act{{Kind: api.ActForce, At: 1, N: 1, B: 1}, {Kind: api.ActWrite, At: 1, N: 1, B: 2}}
	r := newRig(t, small, fifo)
	do(t, r, write...)
	do(t, r, api.Act{Kind: api.ActUnmount})
	has(t, r, 1, contents{one(2)}, contents{one(2)})
	if r.Device() != nil || len(r.Parts()) != 1 {
		t.Error("a device still")
	}
	do(t, r, api.Act{Kind: api.ActCrash}, api.Act{Kind: api.ActMount})
	if !r.Sweep() {
		t.Error("wrong")
	}
	both := contents{one(1), one(2)}
	r = newRig(t, small, fifo)
	do(t, r, write...)
	do(t, r, api.Act{Kind: api.ActStop})
	tell(t, r, api.Act{Kind: api.ActUnmount}, api.ErrOff)
	has(t, r, 1, both, both)
	if r.Device() != nil || len(r.Parts()) != 1 {
		t.Error("a device still")
	}
	r = newRig(t, small, fifo)
	do(t, r, write...)
	do(t, r, api.Act{Kind: api.ActFail, N: 1})
	tell(t, r, api.Act{Kind: api.ActUnmount}, api.ErrReadOnly)
	has(t, r, 1, both, both)
	do(t, r, api.Act{Kind: api.ActMount})
	if !r.Sweep() || !r.Faulty() {
		t.Error("wrong")
	}
	has(t, r, 1, contents{one(2)}, contents{one(2)})
}

// P26.1: faults are the disk's; the rig is faulty, when one was OK.
func TestFaults(t *testing.T) {
	for _, c := range []struct {
		a      api.Act
		want   api.Errno
		faulty bool
	}{
		{api.Act{Kind: api.ActStop, N: 5}, api.OK, false},
		{api.Act{Kind: api.ActStop, N: -5}, api.OK, false},
		{api.Act{Kind: api.ActStop}, api.OK, false},
		{api.Act{Kind: api.ActFail, N: -1}, api.ErrArg, false},
		{api.Act{Kind: api.ActFail}, api.OK, true},
		{api.Act{Kind: api.ActFail, N: 2}, api.OK, true},
		{api.Act{Kind: api.ActHurt, Zone: 8, N: api.ZoneReadOnly}, api.ErrArg, false},
		{api.Act{Kind: api.ActHurt, Zone: -1, N: api.ZoneReadOnly}, api.ErrArg, false},
		{api.Act{Kind: api.ActHurt, Zone: 3, N: api.ZoneFull}, api.ErrArg, false},
		{api.Act{Kind: api.ActHurt, Zone: 3}, api.ErrArg, false},
		{api.Act{Kind: api.ActHurt, Zone: 3, N: api.ZoneReadOnly}, api.OK, true},
		{api.Act{Kind: api.ActHurt, Zone: 7, N: api.ZoneOffline}, api.OK, true},
		{api.Act{Kind: api.ActSpoil, At: -1}, api.ErrArg, false},
		{api.Act{Kind: api.ActSpoil, At: 96}, api.ErrArg, false},
		{api.Act{Kind: api.ActSpoil, At: 95}, api.ErrNone, false},
		{api.Act{Kind: api.ActSpoil, At: 23}, api.OK, true},
	} {
		r := newRig(t, small, fifo)
		tell(t, r, c.a, c.want)
		if r.Faulty() != c.faulty || r.Wrong() || r.Device() == nil {
			t.Errorf("%v: faulty %t", c.a, r.Faulty())
		}
		// It stays so.
		r.Do(api.Act{Kind: api.ActFail, N: -1})
		r.Do(api.Act{Kind: api.ActCrash})
		r.Do(api.Act{Kind: api.ActMount})
		if r.Faulty() != c.faulty {
			t.Errorf("%v: faulty %t behind a crash", c.a, r.Faulty())
		}
	}
	// What they do.
	r := newRig(t, small, fifo)
	do(t, r, api.Act{Kind: api.ActHurt, Zone: 3, N: api.ZoneReadOnly}, api.Act{Kind: api.ActFail, N: 2}, api.Act{Kind: api.ActSpoil, At: 20})
	if z, _ := r.Disk().Zone(3); z.State != api.ZoneReadOnly {
		t.Error(z)
	}
	for range 2 {
		if e := r.Disk().Write(23, one(1)); e != api.ErrMedia {
			t.Error(e)
		}
	}
	if e := r.Disk().Write(23, one(1)); e != api.OK {
		t.Error(e)
	}
	if _, e := r.Disk().Read(20, 1); e != api.ErrMedia {
		t.Error(e)
	}
	tell(t, r, api.Act{Kind: api.ActHurt, Zone: 3, N: api.ZoneReadOnly}, api.ErrState)
	tell(t, r, api.Act{Kind: api.ActSpoil, At: 20}, api.ErrNone)
	do(t, r, api.Act{Kind: api.ActStop, N: 1})
	if e := r.Disk().Write(23, one(1)); e != api.OK || !r.Disk().Off() {
		t.Error(e)
	}
}

// P26.2: a sweep reads each sector by itself, where there is a device.
func TestSweep(t *testing.T) {
	r := newRig(t, small, fifo)
	do(t, r, api.Act{Kind: api.ActWrite, N: 8, B: 1}, api.Act{Kind: api.ActWrite, At: 25, N: 8, B: 1})
	n := len(commands(r.Disk()))
	if !r.Sweep() {
		t.Error("wrong")
	}
	reads := commands(r.Disk())[n:]
	if len(reads) != 16 {
		t.Fatal(len(reads), "reads")
	}
	for _, c := range reads {
		if c.Kind != api.CmdRead || c.N != 1 || c.Code != api.OK {
			t.Error(c)
		}
	}
	do(t, r, api.Act{Kind: api.ActUnmount})
	n = len(commands(r.Disk()))
	if !r.Sweep() || len(commands(r.Disk())) != n {
		t.Error("without a device")
	}
}

// The examples of the chapter.
func TestExamples(t *testing.T) {
	for prefix, want := range map[int][]byte{0: zeros(), 2: one(9)} {
		r := newRig(t, small, fifo)
		do(t, r, api.Act{Kind: api.ActWrite, At: 5, N: 1, B: 9}, api.Act{Kind: api.ActCrash, Prefix: []int{prefix}}, api.Act{Kind: api.ActMount}, api.Act{Kind: api.ActRead, At: 5, N: 1})
		has(t, r, 5, contents{want}, contents{want})
		if r.Wrong() {
			t.Error("wrong")
		}
	}
}
