package zone_test

import (
	"math"
	"slices"
	"testing"

	"thatch/api"
	"thatch/zone"
)

// rows says which states a zone of a kind may have, and for each how little,
// and how far below its length at least, may be written. (-1: nothing may.)
var rows = []struct{ kind, state, least, below int }{
	{api.KindConv, api.ZoneFree, 0, -1},
	{api.KindConv, api.ZoneReadOnly, 0, -1},
	{api.KindConv, api.ZoneOffline, 0, -1},
	{api.KindSeq, api.ZoneEmpty, 0, -1},
	{api.KindSeq, api.ZoneImplicit, 0, 1},
	{api.KindSeq, api.ZoneExplicit, 0, 1},
	{api.KindSeq, api.ZoneClosed, 1, 1},
	{api.KindSeq, api.ZoneFull, 0, 0},
	{api.KindSeq, api.ZoneReadOnly, 0, 0},
	{api.KindSeq, api.ZoneOffline, 0, 0},
}

// may tells, row by row, whether there may be such a zone.
func may(z api.Zone) bool {
	if z.Number < 0 || z.Number > 255 || z.Len < 1 || z.Len > 4096 || z.Start < 0 || z.Start > 1048576 {
		return false
	}
	for _, r := range rows {
		most := 0
		if r.below >= 0 {
			most = z.Len - r.below
		}
		if r.kind == z.Kind && r.state == z.State && z.Written >= r.least && z.Written <= most {
			return true
		}
	}
	return false
}

// zones are zones that may be, and some that may not.
func zones() []api.Zone {
	var l []api.Zone
	for _, length := range []int{-1, 0, 1, 2, 3, 5, 4096, 4097, math.MaxInt} {
		for kind := range 4 {
			for state := -1; state < 9; state++ {
				for _, written := range []int{math.MinInt, -1, 0, 1, 2, 3, length - 1, length, length + 1} {
					l = append(l, api.Zone{Number: 3, Kind: kind, State: state, Start: 10, Len: length, Written: written})
				}
			}
		}
	}
	for _, n := range []int{math.MinInt, -1, 0, 254, 255, 256, 1048575, 1048576, 1048577, math.MaxInt} {
		l = append(l, api.Zone{Number: n, Kind: api.KindSeq, State: api.ZoneClosed, Start: 10, Len: 4, Written: 2})
		l = append(l, api.Zone{Number: 3, Kind: api.KindSeq, State: api.ZoneClosed, Start: n, Len: 4, Written: 2})
		l = append(l, api.Zone{Number: n, Kind: api.KindConv, Start: 10, Len: 4})
		l = append(l, api.Zone{Number: 3, Kind: api.KindConv, Start: n, Len: 4})
		l = append(l, api.Zone{Number: 3, Kind: n, Start: 10, Len: 4}, api.Zone{Number: 3, Kind: api.KindSeq, State: n, Start: 10, Len: 4})
	}
	return l
}

// want wants a zone, or an error alone.
func want(t *testing.T, what string, of api.Zone, got api.Zone, e api.Errno, z api.Zone, code api.Errno) {
	t.Helper()
	if code != api.OK {
		z = api.Zone{}
	}
	if got != z || e != code {
		t.Errorf("%s of %v: %v %d, not %v %d", what, of, got, e, z, code)
	}
}

// P5.1: which zones may be.
func TestMay(t *testing.T) {
	some := map[bool]int{}
	for _, z := range zones() {
		if zone.May(z) != may(z) {
			t.Errorf("%v: %t", z, zone.May(z))
		}
		some[may(z)]++
	}
	if some[true] < 50 || some[false] < 50 {
		t.Errorf("too few zones: %v", some)
	}
}

// P5.1: a new zone.
func TestNew(t *testing.T) {
	edges := []int{math.MinInt, -1, 0, 1, 2, 3, 16, 255, 256, 4096, 4097, 1048576, 1048577, math.MaxInt}
	for _, number := range edges {
		for _, kind := range edges {
			for _, start := range edges {
				for _, length := range edges {
					z := api.Zone{Number: number, Kind: kind, Start: start, Len: length}
					if kind == 2 {
						z.State = 1
					}
					code := api.ErrArg
					if may(z) {
						code = api.OK
					}
					got, e := zone.New(number, kind, start, length)
					want(t, "New", z, got, e, z, code)
				}
			}
		}
	}
}

// behind are what Open, Close, Finish and Reset make of a sequential zone's
// state; an error where that is above 99.
var behind = map[int][4]int{
	api.ZoneEmpty:    {api.ZoneExplicit, 152, api.ZoneFull, api.ZoneEmpty},
	api.ZoneImplicit: {api.ZoneExplicit, api.ZoneClosed, api.ZoneFull, api.ZoneEmpty},
	api.ZoneExplicit: {api.ZoneExplicit, api.ZoneClosed, api.ZoneFull, api.ZoneEmpty},
	api.ZoneClosed:   {api.ZoneExplicit, api.ZoneClosed, api.ZoneFull, api.ZoneEmpty},
	api.ZoneFull:     {152, 152, api.ZoneFull, api.ZoneEmpty},
	api.ZoneReadOnly: {152, 152, 152, 152},
	api.ZoneOffline:  {152, 152, 152, 152},
}

// P5.1, P5.2: the four commands, of all zones.
func TestSteer(t *testing.T) {
	calls := []func(api.Zone) (api.Zone, api.Errno){zone.Open, zone.Close, zone.Finish, zone.Reset}
	for _, z := range zones() {
		for i, name := range []string{"Open", "Close", "Finish", "Reset"} {
			x, code := z, api.OK
			switch {
			case !may(z):
				code = api.ErrArg
			case z.Kind == api.KindConv:
				code = api.ErrKind
			case behind[z.State][i] > 99:
				code = api.Errno(behind[z.State][i] - 100)
			default:
				x.State = behind[z.State][i]
			}
			if name == "Close" && x.Written == 0 {
				x.State = api.ZoneEmpty
			}
			if name == "Reset" {
				x.Written = 0
			}
			got, e := calls[i](z)
			want(t, name, z, got, e, x, code)
		}
	}
}

// numbers are sectors, and how many of them, near to a zone's edges.
func numbers(z api.Zone) []int {
	l := []int{math.MinInt, -1, 0, 1, 2, z.Len - 1, z.Len, z.Len + 1, math.MaxInt - 1, math.MaxInt}
	for i := -1; i < 2; i++ {
		l = append(l, z.Start+i, z.Start+z.Written+i, z.Start+z.Len+i, z.Len-z.Written+i)
	}
	slices.Sort(l)
	return slices.Compact(l)
}

// within tells, sector by sector, whether n sectors from at on are all of them in a zone.
func within(z api.Zone, at, n int) bool {
	if n > 5000 || at > 1<<40 {
		return false
	}
	for s := at; s < at+n; s++ {
		if s < z.Start || s >= z.Start+z.Len {
			return false
		}
	}
	return true
}

// P5.3: what is written, and where.
func TestWrite(t *testing.T) {
	for _, z := range zones() {
		for _, at := range numbers(z) {
			for _, n := range numbers(z) {
				x, code := z, api.OK
				switch {
				case !may(z) || n < 1:
					code = api.ErrArg
				case z.State >= api.ZoneFull:
					code = api.ErrState
				case !within(z, at, n):
					code = api.ErrEnd
				case z.Kind == api.KindConv:
				case at != z.Start+z.Written:
					code = api.ErrOrder
				case z.Written+n == z.Len:
					x.Written, x.State = z.Len, api.ZoneFull
				case z.State == api.ZoneExplicit:
					x.Written += n
				default:
					x.Written, x.State = z.Written+n, api.ZoneImplicit
				}
				got, e := zone.Write(z, at, n)
				want(t, "Write", z, got, e, x, code)
			}
		}
	}
}

// P5.3: what can be read.
func TestRead(t *testing.T) {
	for _, z := range zones() {
		for _, at := range numbers(z) {
			for _, n := range numbers(z) {
				code := api.OK
				switch {
				case !may(z) || n < 1:
					code = api.ErrArg
				case z.State == api.ZoneOffline:
					code = api.ErrState
				case !within(z, at, n):
					code = api.ErrEnd
				case z.Kind == api.KindSeq && at+n > z.Start+z.Written:
					code = api.ErrOrder
				}
				if e := zone.Read(z, at, n); e != code {
					t.Errorf("Read %d from %d on of %v: %d, not %d", n, at, z, e, code)
				}
			}
		}
	}
}

// P5.4: zones that are hurt.
func TestHurt(t *testing.T) {
	for _, z := range zones() {
		for _, state := range []int{math.MinInt, -1, 0, 1, 2, 3, 4, 5, 6, 7, 8, math.MaxInt} {
			x, code := z, api.OK
			x.State = state
			switch {
			case !may(z) || state != 6 && state != 7:
				code = api.ErrArg
			case z.State == 7 || z.State == 6 && state == 6:
				code = api.ErrState
			}
			got, e := zone.Hurt(z, state)
			want(t, "Hurt", z, got, e, x, code)
		}
	}
}

// P5.4: what zones are.
func TestAre(t *testing.T) {
	for _, z := range zones() {
		if zone.IsOpen(z) != (z.State == 2 || z.State == 3) {
			t.Errorf("IsOpen of %v", z)
		}
		left, pointer := 0, -1
		if may(z) && z.Kind == api.KindSeq && z.State < api.ZoneFull {
			left, pointer = z.Len-z.Written, z.Start+z.Written
		}
		if zone.Left(z) != left || zone.Pointer(z) != pointer {
			t.Errorf("%v: %d left at %d, not %d at %d", z, zone.Left(z), zone.Pointer(z), left, pointer)
		}
	}
}

// P5.4: the names of states.
func TestName(t *testing.T) {
	names := []string{"", "free", "empty", "implicit", "explicit", "closed", "full", "read-only", "offline", ""}
	for i, name := range names {
		if got := zone.Name(i - 1); got != name {
			t.Errorf("state %d: %q", i-1, got)
		}
	}
	if zone.Name(math.MinInt) != "" || zone.Name(math.MaxInt) != "" {
		t.Error("states that there are not")
	}
}

// P5.5: a zone that is gone on with, by all calls, stays one that may be, and
// only what is reset has less written.
func TestGoneOn(t *testing.T) {
	seen := map[api.Zone]int{}
	var work []api.Zone
	reach := func(from, z api.Zone, e api.Errno, reset bool) {
		if e != api.OK {
			return
		}
		if !zone.May(z) || z.Number != from.Number || z.Kind != from.Kind || z.Start != from.Start || z.Len != from.Len {
			t.Errorf("%v became %v", from, z)
		}
		if z.Written < from.Written && !reset {
			t.Errorf("%v lost something: %v", from, z)
		}
		if seen[z] == 0 {
			seen[z] = 1
			work = append(work, z)
		}
	}
	for _, kind := range []int{api.KindConv, api.KindSeq} {
		z, e := zone.New(7, kind, 70, 6)
		reach(z, z, e, false)
	}
	for len(work) > 0 {
		z := work[0]
		work = work[1:]
		for i, call := range []func(api.Zone) (api.Zone, api.Errno){zone.Open, zone.Close, zone.Finish, zone.Reset} {
			x, e := call(z)
			reach(z, x, e, i == 3)
		}
		for at := 69; at < 78; at++ {
			for n := range 9 {
				x, e := zone.Write(z, at, n)
				reach(z, x, e, false)
			}
		}
		for state := range 9 {
			x, e := zone.Hurt(z, state)
			reach(z, x, e, false)
		}
	}
	// A conventional one in three states; a sequential one that is empty, open
	// in two ways, closed, full, and hurt in two ways. (An implicitly open one
	// of which nothing is written may be, but no call makes it.)
	if len(seen) != 3+1+5+6+5+7+7+7 {
		t.Errorf("%d zones", len(seen))
	}
}

// Example 1 of the chapter.
func TestExample(t *testing.T) {
	z, _ := zone.New(3, api.KindSeq, 48, 16)
	z, e := zone.Write(z, 48, 4)
	if e != api.OK || z.State != api.ZoneImplicit || z.Written != 4 {
		t.Error(z, e)
	}
	if _, e := zone.Write(z, 48, 1); e != api.ErrOrder {
		t.Error(e)
	}
}
