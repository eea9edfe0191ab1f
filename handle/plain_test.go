package handle_test

import (
	"slices"
	"testing"

	"thatch/api"
	"thatch/handle"
	"thatch/zdisk"
)

// some has conventional zones 0 and 1, and sequential ones 2 to 6 of 8 sectors,
// of which two may be open.
var some = api.Shape{Conv: 2, Seq: 5, Len: 8, Limit: 2}

func newDisk(t *testing.T, s api.Shape) *zdisk.Disk {
	t.Helper()
	d, e := zdisk.New(s)
	if e != api.OK {
		t.Fatal(e)
	}
	return d
}

func newHandle(t *testing.T, d *zdisk.Disk, zone int) *handle.Handle {
	t.Helper()
	h, e := handle.New(d, zone)
	if e != api.OK {
		t.Fatal(zone, e)
	}
	return h
}

// fill is n sectors, each of which has other bytes, from b on.
func fill(n int, b byte) []byte {
	var l []byte
	for i := range n {
		l = append(l, slices.Repeat([]byte{b + byte(i)}, api.SectorBytes)...)
	}
	return l
}

// must wants that something is not refused.
func must(t *testing.T, l ...api.Errno) {
	t.Helper()
	for i, e := range l {
		if e != api.OK {
			t.Fatal(i, e)
		}
	}
}

// write writes n sectors to a zone, by the disk itself.
func write(t *testing.T, d *zdisk.Disk, zone, n int) {
	t.Helper()
	must(t, d.Write(zone*d.Shape().Len+zoneOf(t, d, zone).Written, fill(n, 1)))
}

func zoneOf(t *testing.T, d *zdisk.Disk, zone int) api.Zone {
	t.Helper()
	z, e := d.Zone(zone)
	must(t, e)
	return z
}

// given is the commands that a disk was given, from one on: kind, zone, first
// sector, how many, and what was answered.
func given(d *zdisk.Disk, from int) []api.Cmd {
	var l []api.Cmd
	for c := range d.Cmds() {
		l = append(l, api.Cmd{Kind: c.Kind, Zone: c.Zone, At: c.At, N: c.N, Code: c.Code})
	}
	return l[from:]
}

// many is how many commands a disk was given.
func many(d *zdisk.Disk) int { return len(given(d, 0)) }

// wantGiven wants that a disk was given just these commands, from one on.
func wantGiven(t *testing.T, what string, d *zdisk.Disk, from int, want ...api.Cmd) {
	t.Helper()
	if got := given(d, from); !slices.Equal(got, want) {
		t.Errorf("%s: commands %v, not %v", what, got, want)
	}
}

// wantHandle wants all that a handle says of itself.
func wantHandle(t *testing.T, what string, h *handle.Handle, zone, next, left int, dead bool) {
	t.Helper()
	if h.Zone() != zone || h.Next() != next || h.Left() != left || h.Dead() != dead {
		t.Errorf("%s: zone %d, next %d, left %d, dead %t; not %d, %d, %d, %t", what, h.Zone(), h.Next(), h.Left(), h.Dead(), zone, next, left, dead)
	}
}

// wantDead wants a dead handle, which gives the disk nothing any more, whatever
// it is told.
func wantDead(t *testing.T, what string, d *zdisk.Disk, h *handle.Handle, zone, next int) {
	t.Helper()
	from := many(d)
	wantHandle(t, what, h, zone, next, 0, true)
	for _, b := range [][]byte{nil, {}, fill(1, 1), fill(1, 1)[:100], fill(100, 1)} {
		if at, e := h.Append(b); at != 0 || e != api.ErrClosed {
			t.Errorf("%s: Append of %d bytes: %d %d", what, len(b), at, e)
		}
	}
	if e := h.Seal(); e != api.ErrClosed {
		t.Errorf("%s: Seal: %d", what, e)
	}
	wantHandle(t, what, h, zone, next, 0, true)
	wantGiven(t, what, d, from)
}

// state is a way to bring a zone to a state, and what the zone says then.
type state struct {
	name    string
	bring   func(t *testing.T, d *zdisk.Disk, zone int)
	state   int
	written int
}

// states are all of them that a sequential zone may have.
func states() []state {
	return []state{
		{"empty", func(*testing.T, *zdisk.Disk, int) {}, api.ZoneEmpty, 0},
		{"emptied", func(t *testing.T, d *zdisk.Disk, zone int) { write(t, d, zone, 8); must(t, d.Reset(zone)) }, api.ZoneEmpty, 0},
		{"implicit", func(t *testing.T, d *zdisk.Disk, zone int) { write(t, d, zone, 3) }, api.ZoneImplicit, 3},
		{"implicit but one", func(t *testing.T, d *zdisk.Disk, zone int) { write(t, d, zone, 7) }, api.ZoneImplicit, 7},
		{"explicit, nothing written", func(t *testing.T, d *zdisk.Disk, zone int) { must(t, d.Open(zone)) }, api.ZoneExplicit, 0},
		{"explicit", func(t *testing.T, d *zdisk.Disk, zone int) { write(t, d, zone, 2); must(t, d.Open(zone)) }, api.ZoneExplicit, 2},
		{"closed", func(t *testing.T, d *zdisk.Disk, zone int) { write(t, d, zone, 5); must(t, d.Close(zone)) }, api.ZoneClosed, 5},
		{"full", func(t *testing.T, d *zdisk.Disk, zone int) { write(t, d, zone, 8) }, api.ZoneFull, 8},
		{"finished", func(t *testing.T, d *zdisk.Disk, zone int) { write(t, d, zone, 4); must(t, d.Finish(zone)) }, api.ZoneFull, 4},
		{"finished, nothing written", func(t *testing.T, d *zdisk.Disk, zone int) { must(t, d.Finish(zone)) }, api.ZoneFull, 0},
		{"read-only", func(t *testing.T, d *zdisk.Disk, zone int) {
			write(t, d, zone, 4)
			must(t, d.Hurt(zone, api.ZoneReadOnly))
		}, api.ZoneReadOnly, 4},
		{"read-only, nothing written", func(t *testing.T, d *zdisk.Disk, zone int) { must(t, d.Hurt(zone, api.ZoneReadOnly)) }, api.ZoneReadOnly, 0},
		{"offline", func(t *testing.T, d *zdisk.Disk, zone int) {
			write(t, d, zone, 8)
			must(t, d.Hurt(zone, api.ZoneOffline))
		}, api.ZoneOffline, 8},
		{"offline, nothing written", func(t *testing.T, d *zdisk.Disk, zone int) { must(t, d.Hurt(zone, api.ZoneOffline)) }, api.ZoneOffline, 0},
	}
}

// stateDisk is a disk of which a zone is in a state.
func stateDisk(t *testing.T, s state, zone int) *zdisk.Disk {
	t.Helper()
	d := newDisk(t, some)
	s.bring(t, d, zone)
	if z := zoneOf(t, d, zone); z.State != s.state || z.Written != s.written {
		t.Fatalf("%s: %v", s.name, z)
	}
	return d
}

// numbers are numbers that look like chance, the same ones each time.
func numbers(seed uint64) func(below int) int {
	x := seed*0x9E3779B97F4A7C15 + 1
	return func(below int) int {
		x ^= x << 13
		x ^= x >> 7
		x ^= x << 17
		return int(x>>11) % below
	}
}
