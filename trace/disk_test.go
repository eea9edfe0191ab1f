package trace_test

import (
	"slices"
	"testing"

	"thatch/api"
	"thatch/trace"
	"thatch/zdisk"
)

// played is a disk to which anything was done, and its commands, in parts.
func played(t *testing.T, s api.Shape, number func(int) int, n int) [][]api.Cmd {
	t.Helper()
	d, code := zdisk.New(s)
	if code != api.OK {
		t.Fatal(code)
	}
	var parts [][]api.Cmd
	from := 0
	cut := func() {
		all := slices.Collect(d.Cmds())
		parts = append(parts, all[from:])
		from = len(all)
	}
	for range n {
		zone := number(s.Conv + s.Seq)
		z, _ := d.Zone(zone)
		switch number(20) {
		case 0:
			d.Reset(zone)
		case 1:
			d.Open(zone)
		case 2:
			d.Close(zone)
		case 3:
			d.Finish(number(2) * zone)
		case 4:
			d.Flush()
		case 5, 6, 7, 8:
			d.Read(z.Start+number(s.Len), 1+number(3))
		case 9:
			fault(d, number, zone)
		case 10:
			if number(4) == 0 {
				d.Crash(nil, []int{number(s.Len), number(s.Len), number(s.Len)})
				cut()
			}
		default:
			at := z.Start + z.Written + number(8)/7
			d.Write(at, make([]byte, (1+number(3))*api.SectorBytes))
		}
	}
	cut()
	return parts
}

func fault(d *zdisk.Disk, number func(int) int, zone int) {
	switch number(6) {
	case 0:
		d.Hurt(zone, api.ZoneReadOnly+number(2))
	case 1:
		d.Fail(number(3))
	default:
		z, _ := d.Zone(zone)
		d.Spoil(z.Start + number(z.Len))
	}
}

// P25.1: what a disk did, and what failed, its host could ask for; what it
// refused, it could not, unless the zone is hurt. What it left is there.
func TestDisk(t *testing.T) {
	codes := map[api.Errno]int{}
	for seed := range uint64(400) {
		s := []api.Shape{small, sh(1, 4, 5, 1), sh(3, 5, 9, 3)}[seed%3]
		parts := played(t, s, numbers(seed), 300)
		for _, l := range parts {
			for _, c := range l {
				hurt := c.State == api.ZoneReadOnly || c.State == api.ZoneOffline
				judge(t, s, c, c.Code == api.OK || c.Code == api.ErrMedia || c.Code == api.ErrState && hurt)
				codes[c.Code]++
			}
		}
		if !trace.Follows(s, parts) {
			t.Fatal(seed, "does not follow")
		}
	}
	for _, code := range []api.Errno{api.OK, api.ErrMedia, api.ErrState, api.ErrEnd, api.ErrOrder, api.ErrKind, api.ErrLimit} {
		if codes[code] < 20 {
			t.Error("code", code, codes[code], "times")
		}
	}
}

// keeping are a trace's commands but those that do not keep to the rules.
func keeping(s api.Shape, parts [][]api.Cmd) []api.Cmd {
	var l []api.Cmd
	for _, c := range slices.Concat(parts...) {
		if trace.Keeps(s, c) {
			l = append(l, c)
		}
	}
	return l
}

// P25.3: parts of a trace that keeps to the rules do so; costs are at least as
// many as sectors.
func TestParts(t *testing.T) {
	for seed := range uint64(60) {
		number := numbers(9000 + seed)
		s := []api.Shape{small, sh(1, 4, 5, 1), sh(3, 5, 9, 3)}[seed%3]
		l := keeping(s, played(t, s, number, 120))
		for range 50 {
			from := number(len(l) + 1)
			to := from + number(len(l)+1-from)
			part := l[from:to]
			if k := trace.First(s, part); k != -1 {
				t.Fatalf("%v does not keep to the rules", part[k])
			}
			sectors := 0
			for _, x := range trace.Way(part) {
				sectors += x.N
			}
			if cost := trace.Cost(s, part); cost < sectors || sectors < trace.Written(part) {
				t.Fatalf("%d for %d sectors, %d of them written", cost, sectors, trace.Written(part))
			}
		}
	}
}
