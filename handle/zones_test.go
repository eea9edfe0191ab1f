package handle_test

import (
	"math"
	"slices"
	"testing"

	"thatch/api"
	"thatch/handle"
)

// P15.2: Empty empties what is not empty, by one command, and says what refuses it.
func TestEmpty(t *testing.T) {
	for _, s := range states() {
		d := stateDisk(t, s, 4)
		from := many(d)
		want := api.OK
		if s.state == api.ZoneReadOnly || s.state == api.ZoneOffline {
			want = api.ErrState
		}
		if e := handle.Empty(d, 4); e != want {
			t.Errorf("%s: %d, not %d", s.name, e, want)
		}
		if s.state == api.ZoneEmpty {
			wantGiven(t, s.name, d, from)
		} else {
			wantGiven(t, s.name, d, from, api.Cmd{Kind: api.CmdReset, Zone: 4, Code: want})
		}
		if z := zoneOf(t, d, 4); want == api.OK && (z.State != api.ZoneEmpty || z.Written != 0) {
			t.Errorf("%s: %v", s.name, z)
		}
	}
}

// P15.2: disks and zones that there are not; a disk that is off.
func TestEmptyNone(t *testing.T) {
	d := newDisk(t, some)
	write(t, d, 3, 2)
	from := many(d)
	for _, zone := range noZones {
		if e := handle.Empty(d, zone); e != api.ErrArg {
			t.Errorf("zone %d: %d", zone, e)
		}
	}
	for _, zone := range append(noZones, 2, 6) {
		if e := handle.Empty(nil, zone); e != api.ErrArg {
			t.Errorf("no disk, zone %d: %d", zone, e)
		}
	}
	must(t, d.Stop(0))
	if e := handle.Empty(d, 3); e != api.ErrOff {
		t.Error("off:", e)
	}
	// Nothing has to be done of this one.
	if e := handle.Empty(d, 4); e != api.OK {
		t.Error("off, an empty one:", e)
	}
	wantGiven(t, "none", d, from)
}

// P15.2: which zones are not to be written any more, without a command.
func TestRetire(t *testing.T) {
	for _, s := range states() {
		d := stateDisk(t, s, 5)
		from := many(d)
		want := s.state == api.ZoneReadOnly || s.state == api.ZoneOffline
		if handle.Retire(d, 5) != want {
			t.Errorf("%s: not %t", s.name, want)
		}
		if handle.Retire(d, 4) || handle.Retire(d, 6) {
			t.Errorf("%s: others", s.name)
		}
		wantGiven(t, s.name, d, from)
	}
	d := newDisk(t, some)
	for _, zone := range []int{math.MinInt, -1, 7, 8, api.NoZone, math.MaxInt} {
		if !handle.Retire(d, zone) {
			t.Errorf("zone %d, of which there is none", zone)
		}
	}
	for zone := -1; zone < 9; zone++ {
		if !handle.Retire(nil, zone) {
			t.Errorf("zone %d of no disk", zone)
		}
	}
	must(t, d.Stop(0))
	if handle.Retire(d, 3) {
		t.Error("off")
	}
	// A conventional zone is one, too.
	must(t, d.Hurt(0, api.ZoneReadOnly))
	if !handle.Retire(d, 0) || handle.Retire(d, 1) {
		t.Error("conventional zones")
	}
}

// P15.2: which zones are empty, of any that are in any state, without a command.
func TestFresh(t *testing.T) {
	all := states()
	for seed := range 300 {
		number := numbers(uint64(seed))
		d := newDisk(t, api.Shape{Conv: 2, Seq: 5, Len: 8, Limit: 5})
		var want []int
		for zone := 2; zone < 7; zone++ {
			s := all[number(len(all))]
			if number(3) == 0 {
				s = all[0]
			}
			s.bring(t, d, zone)
			if s.state == api.ZoneEmpty {
				want = append(want, zone)
			}
		}
		from := many(d)
		if got := handle.Fresh(d); !slices.Equal(got, want) {
			t.Errorf("%v, not %v", got, want)
		}
		wantGiven(t, "Fresh", d, from)
	}
	if l := handle.Fresh(nil); len(l) > 0 {
		t.Error("no disk:", l)
	}
}

// P15.2: all zones of disks of some shapes, as they are at first; a disk that is off.
func TestFreshAll(t *testing.T) {
	for _, s := range []api.Shape{{Conv: 1, Seq: 1, Len: 4, Limit: 1}, {Conv: 16, Seq: 128, Len: 4, Limit: 2}, some} {
		var want []int
		for i := range s.Seq {
			want = append(want, s.Conv+i)
		}
		d := newDisk(t, s)
		if got := handle.Fresh(d); !slices.Equal(got, want) {
			t.Errorf("%v: %v", s, got)
		}
		must(t, d.Stop(0))
		if got := handle.Fresh(d); !slices.Equal(got, want) {
			t.Errorf("%v, off: %v", s, got)
		}
	}
}
