package handle_test

import (
	"bytes"
	"math"
	"slices"
	"testing"

	"thatch/api"
	"thatch/handle"
	"thatch/zdisk"
)

// noZones are numbers that no sequential zone of shape some has.
var noZones = []int{math.MinInt, -1, 0, 1, 7, 8, api.NoZone, math.MaxInt}

// P15.1: of which zones there is a handle, what it knows, and that no command is
// given for it.
func TestNew(t *testing.T) {
	for _, s := range states() {
		for _, zone := range []int{2, 4, 6} {
			d := stateDisk(t, s, zone)
			from := many(d)
			h, e := handle.New(d, zone)
			switch s.state {
			case api.ZoneFull, api.ZoneReadOnly, api.ZoneOffline:
				if h != nil || e != api.ErrState {
					t.Errorf("%s: %v %d", s.name, h, e)
				}
			default:
				if e != api.OK {
					t.Fatalf("%s: %d", s.name, e)
				}
				wantHandle(t, s.name, h, zone, s.written, 8-s.written, false)
			}
			wantGiven(t, s.name, d, from)
		}
	}
}

// P15.1: disks and zones that there are not.
func TestNewNone(t *testing.T) {
	d := newDisk(t, some)
	must(t, d.Hurt(1, api.ZoneOffline))
	for _, zone := range noZones {
		if h, e := handle.New(d, zone); h != nil || e != api.ErrArg {
			t.Errorf("zone %d: %v %d", zone, h, e)
		}
	}
	for _, zone := range append(noZones, 2, 6) {
		if h, e := handle.New(nil, zone); h != nil || e != api.ErrArg {
			t.Errorf("no disk, zone %d: %v %d", zone, h, e)
		}
	}
	wantGiven(t, "New", d, 0)
	// Zones of a disk that is off are known all the same.
	must(t, d.Stop(0))
	wantHandle(t, "off", newHandle(t, d, 3), 3, 0, 8, false)
}

// P15.1, P15.2: what is appended stands where it is told, by one write each.
func TestAppend(t *testing.T) {
	for _, s := range states() {
		d := stateDisk(t, s, 3)
		h, e := handle.New(d, 3)
		if e != api.OK {
			continue
		}
		next := s.written
		for i, n := range []int{1, 2, 1, 3, 1, 1, 1, 1} {
			n = min(n, 8-next)
			if n == 0 {
				break
			}
			from := many(d)
			b := fill(n, byte(10*i+20))
			at, e := h.Append(b)
			if at != next || e != api.OK {
				t.Fatalf("%s: %d %d, not %d", s.name, at, e, next)
			}
			wantGiven(t, s.name, d, from, api.Cmd{Kind: api.CmdWrite, Zone: 3, At: 24 + next, N: n})
			if got, e := d.Read(24+next, n); e != api.OK || !bytes.Equal(got, b) {
				t.Errorf("%s: other bytes, %d", s.name, e)
			}
			next += n
			wantHandle(t, s.name, h, 3, next, 8-next, false)
		}
		// Full, and yet not dead.
		from := many(d)
		if at, e := h.Append(fill(1, 1)); at != 0 || e != api.ErrFull {
			t.Errorf("%s: no room: %d %d", s.name, at, e)
		}
		wantHandle(t, s.name, h, 3, 8, 0, false)
		wantGiven(t, s.name, d, from)
		must(t, h.Seal())
		wantDead(t, s.name, d, h, 3, 8)
	}
}

// P15.1: a whole zone at once.
func TestAppendWhole(t *testing.T) {
	d := newDisk(t, some)
	h := newHandle(t, d, 2)
	if at, e := h.Append(fill(9, 1)); at != 0 || e != api.ErrFull {
		t.Error(at, e)
	}
	if at, e := h.Append(fill(8, 1)); at != 0 || e != api.OK {
		t.Error(at, e)
	}
	wantHandle(t, "whole", h, 2, 8, 0, false)
	wantGiven(t, "whole", d, 0, api.Cmd{Kind: api.CmdWrite, Zone: 2, At: 16, N: 8})
}

// P15.1: what can not be appended is refused by its name, no whole sectors ahead
// of too many; nothing is changed, and no command given.
func TestAppendRefused(t *testing.T) {
	for written := range 8 {
		d := newDisk(t, some)
		if written > 0 {
			write(t, d, 5, written)
		}
		h := newHandle(t, d, 5)
		from := many(d)
		left := 8 - written
		for _, c := range []struct {
			bytes int
			want  api.Errno
		}{
			{0, api.ErrArg}, {1, api.ErrArg}, {127, api.ErrArg}, {129, api.ErrArg}, {255, api.ErrArg}, {left*128 - 1, api.ErrArg}, {left*128 + 1, api.ErrArg}, {(left+1)*128 - 1, api.ErrArg}, {5000*128 + 1, api.ErrArg},
			{(left + 1) * 128, api.ErrFull}, {(left + 2) * 128, api.ErrFull}, {9 * 128, api.ErrFull}, {5000 * 128, api.ErrFull},
		} {
			if at, e := h.Append(make([]byte, c.bytes)); at != 0 || e != c.want {
				t.Errorf("%d written, %d bytes: %d %d, not %d", written, c.bytes, at, e, c.want)
			}
		}
		if at, e := h.Append(nil); at != 0 || e != api.ErrArg {
			t.Errorf("nothing: %d %d", at, e)
		}
		wantHandle(t, "refused", h, 5, written, left, false)
		wantGiven(t, "refused", d, from)
		if at, e := h.Append(fill(left, 7)); at != written || e != api.OK {
			t.Errorf("all that is left: %d %d", at, e)
		}
	}
}

// fault is a way in which the disk comes to refuse a write to a zone of which
// two sectors are written, and what it answers then.
type fault struct {
	name  string
	bring func(t *testing.T, d *zdisk.Disk, zone int)
	want  api.Errno
}

func faults() []fault {
	return []fault{
		{"the write fails", func(t *testing.T, d *zdisk.Disk, _ int) { must(t, d.Fail(1)) }, api.ErrMedia},
		{"read-only", func(t *testing.T, d *zdisk.Disk, zone int) { must(t, d.Hurt(zone, api.ZoneReadOnly)) }, api.ErrState},
		{"offline", func(t *testing.T, d *zdisk.Disk, zone int) { must(t, d.Hurt(zone, api.ZoneOffline)) }, api.ErrState},
		{"finished by others", func(t *testing.T, d *zdisk.Disk, zone int) { must(t, d.Finish(zone)) }, api.ErrState},
		{"written by others", func(t *testing.T, d *zdisk.Disk, zone int) { write(t, d, zone, 1) }, api.ErrOrder},
		{"emptied by others", func(t *testing.T, d *zdisk.Disk, zone int) { must(t, d.Reset(zone)) }, api.ErrOrder},
		{"lost by a crash", func(t *testing.T, d *zdisk.Disk, zone int) { must(t, d.Crash(nil, nil)) }, api.ErrOrder},
		{"the power is gone", func(t *testing.T, d *zdisk.Disk, _ int) { must(t, d.Stop(0)) }, api.ErrOff},
		{"others are open", func(t *testing.T, d *zdisk.Disk, zone int) {
			must(t, d.Open(5), d.Open(6))
			if z := zoneOf(t, d, zone); z.State != api.ZoneClosed {
				must(t, d.Close(zone))
			}
		}, api.ErrLimit},
	}
}

// P15.1: what refuses a write is told, and the handle is dead then; what it was
// of is not written, and where the fault goes by a new handle goes on.
func TestAppendFault(t *testing.T) {
	for _, f := range faults() {
		for _, n := range []int{1, 6} {
			d := newDisk(t, some)
			h := newHandle(t, d, 3)
			if at, e := h.Append(fill(2, 1)); at != 0 || e != api.OK {
				t.Fatal(at, e)
			}
			f.bring(t, d, 3)
			was := zoneOf(t, d, 3)
			if at, e := h.Append(fill(n, 50)); at != 0 || e != f.want {
				t.Errorf("%s: %d %d, not %d", f.name, at, e, f.want)
			}
			if z := zoneOf(t, d, 3); z != was {
				t.Errorf("%s: %v, not %v", f.name, z, was)
			}
			wantDead(t, f.name, d, h, 3, 2)
		}
	}
	d := newDisk(t, some)
	h := newHandle(t, d, 4)
	must(t, d.Fail(1))
	h.Append(fill(3, 1))
	h = newHandle(t, d, 4)
	if at, e := h.Append(fill(3, 1)); at != 0 || e != api.OK {
		t.Error(at, e)
	}
}

// P15.1: a zone is written to behind what the handle knows, even where others
// have brought it back there.
func TestAppendKnows(t *testing.T) {
	d := newDisk(t, some)
	h := newHandle(t, d, 3)
	h.Append(fill(2, 1))
	must(t, d.Reset(3))
	write(t, d, 3, 2)
	if at, e := h.Append(fill(1, 9)); at != 2 || e != api.OK {
		t.Error(at, e)
	}
	// Another handle of the same zone does not know of it.
	other := newHandle(t, d, 3)
	if at, e := h.Append(fill(2, 9)); at != 3 || e != api.OK {
		t.Error(at, e)
	}
	wantHandle(t, "other", other, 3, 3, 5, false)
	if at, e := other.Append(fill(1, 9)); at != 0 || e != api.ErrOrder {
		t.Error(at, e)
	}
	wantDead(t, "other", d, other, 3, 3)
	wantHandle(t, "the first one", h, 3, 5, 3, false)
}

// P15.1: Seal finishes the zone by one command, and the handle is dead.
func TestSeal(t *testing.T) {
	for _, s := range states() {
		d := stateDisk(t, s, 6)
		h, e := handle.New(d, 6)
		if e != api.OK {
			continue
		}
		from := many(d)
		if e := h.Seal(); e != api.OK {
			t.Errorf("%s: %d", s.name, e)
		}
		wantGiven(t, s.name, d, from, api.Cmd{Kind: api.CmdFinish, Zone: 6})
		if z := zoneOf(t, d, 6); z.State != api.ZoneFull || z.Written != s.written {
			t.Errorf("%s: %v", s.name, z)
		}
		wantDead(t, s.name, d, h, 6, s.written)
	}
}

// P15.1: where Finish is refused that is told, and the handle is dead all the same.
func TestSealRefused(t *testing.T) {
	for _, f := range faults() {
		d := newDisk(t, some)
		h := newHandle(t, d, 3)
		h.Append(fill(2, 1))
		f.bring(t, d, 3)
		want := d.Fork().Finish(3)
		from := many(d)
		if e := h.Seal(); e != want {
			t.Errorf("%s: %d, not %d", f.name, e, want)
		}
		switch f.want {
		case api.ErrOff:
			wantGiven(t, f.name, d, from)
			if want != api.ErrOff {
				t.Errorf("%s: %d", f.name, want)
			}
		default:
			wantGiven(t, f.name, d, from, api.Cmd{Kind: api.CmdFinish, Zone: 3, Code: want})
		}
		wantDead(t, f.name, d, h, 3, 2)
	}
}

// P15.2: a nil handle.
func TestNilHandle(t *testing.T) {
	var h *handle.Handle
	for _, b := range [][]byte{nil, fill(1, 1), fill(1, 1)[:100]} {
		if at, e := h.Append(b); at != 0 || e != api.ErrClosed {
			t.Error(at, e)
		}
	}
	if e := h.Seal(); e != api.ErrClosed {
		t.Error(e)
	}
	wantHandle(t, "nil", h, -1, 0, 0, true)
}

// P15.3: handles of several zones, each the only one of its zone: no write is
// refused, as none is open but by being written, and all stands where it was told.
func TestOneHandleEach(t *testing.T) {
	for _, limit := range []int{1, 2, 5} {
		for seed := range 40 {
			number := numbers(uint64(seed))
			d := newDisk(t, api.Shape{Conv: 2, Seq: 5, Len: 8, Limit: limit})
			zones := make([][]byte, 5)
			handles := make([]*handle.Handle, 5)
			for step := range 200 {
				i := number(5)
				if handles[i] == nil || handles[i].Dead() {
					must(t, handle.Empty(d, 2+i))
					handles[i], zones[i] = newHandle(t, d, 2+i), nil
				}
				h, b := handles[i], fill(1+number(4), byte(step))
				switch n := len(b) / 128; {
				case number(12) == 0:
					must(t, h.Seal())
				case number(20) == 0 && h.Left() > 0:
					// Whoever made a handle may make it anew of what the zone says.
					handles[i] = newHandle(t, d, 2+i)
				case n > h.Left():
					if at, e := h.Append(b); at != 0 || e != api.ErrFull {
						t.Fatal(at, e)
					}
				default:
					at, e := h.Append(b)
					if at*128 != len(zones[i]) || e != api.OK {
						t.Fatal(at, e)
					}
					zones[i] = append(zones[i], b...)
				}
				if number(15) == 0 {
					must(t, d.Flush())
				}
				next, left := len(zones[i])/128, 8-len(zones[i])/128
				if handles[i].Dead() {
					left = 0
				}
				wantHandle(t, "a handle", handles[i], 2+i, next, left, handles[i].Dead())
			}
			for i, want := range zones {
				if len(want) == 0 {
					continue
				}
				if got, e := d.Read((2+i)*8, len(want)/128); e != api.OK || !bytes.Equal(got, want) {
					t.Errorf("limit %d, zone %d: other bytes, %d", limit, 2+i, e)
				}
			}
			for c := range d.Cmds() {
				if c.Code != api.OK {
					t.Fatal("refused", c)
				}
			}
		}
	}
}

// R3: what is appended is not kept, and an answer is new.
func TestNothingShared(t *testing.T) {
	d := newDisk(t, some)
	h := newHandle(t, d, 3)
	room := fill(3, 1)
	was := slices.Clone(room)
	b := room[:256]
	h.Append(b)
	if !bytes.Equal(room, was) {
		t.Error("what was handed in is changed")
	}
	clear(room)
	if got, e := d.Read(24, 2); e != api.OK || !bytes.Equal(got, was[:256]) {
		t.Error("what was handed in is kept", e)
	}
	for range 2 {
		l := handle.Fresh(d)
		if !slices.Equal(l, []int{2, 4, 5, 6}) {
			t.Error(l)
		}
		clear(l[:cap(l)])
	}
}
