package trace_test

import (
	"math"
	"slices"
	"testing"

	"thatch/api"
	"thatch/trace"
)

// codes are all errors of api.go, and some numbers that are none.
func codes() []api.Errno {
	l := []api.Errno{
		api.OK, api.ErrArg, api.ErrFull, api.ErrLong, api.ErrNone, api.ErrTwice, api.ErrClosed, api.ErrCode, api.ErrSpan,
		api.ErrOrder, api.ErrEnd, api.ErrState, api.ErrKind, api.ErrLimit, api.ErrMedia, api.ErrOff, api.ErrGeom, api.ErrRange,
		api.ErrSuper, api.ErrBusy, api.ErrRole, api.ErrIO, api.ErrMeta, api.ErrReadOnly, api.ErrText,
	}
	return append(l, -1, 7, 54, math.MinInt, math.MaxInt)
}

// judge wants that a command keeps to the rules, or does not.
func judge(t *testing.T, s api.Shape, c api.Cmd, want bool) {
	t.Helper()
	if trace.Keeps(s, c) != want {
		t.Fatalf("%v: %+v keeps to the rules: %t", s, c, !want)
	}
}

// P25.1: the examples of the words, one by one.
func TestKeepsByHand(t *testing.T) {
	ok := api.Cmd{Kind: api.CmdWrite, Zone: 2, At: 16, N: 2, State: api.ZoneEmpty}
	judge(t, small, ok, true)
	for _, c := range []struct {
		what string
		do   func(c *api.Cmd)
		want bool
	}{
		{"behind the write pointer", func(c *api.Cmd) { c.At = 17 }, false},
		{"at it", func(c *api.Cmd) { c.At, c.Written, c.State = 17, 1, api.ZoneClosed }, true},
		{"ahead of it", func(c *api.Cmd) { c.Written = 1 }, false},
		{"all of the zone", func(c *api.Cmd) { c.N = 8 }, true},
		{"more", func(c *api.Cmd) { c.N = 9 }, false},
		{"as much as an int has", func(c *api.Cmd) { c.N = math.MaxInt }, false},
		{"nothing", func(c *api.Cmd) { c.N = 0 }, false},
		{"less", func(c *api.Cmd) { c.N = -1 }, false},
		{"another zone's sectors", func(c *api.Cmd) { c.Zone = 3 }, false},
		{"another zone's, where they are written", func(c *api.Cmd) { c.Zone, c.Written = 3, -8 }, false},
		{"a conventional zone's", func(c *api.Cmd) { c.Zone, c.At, c.Written = 1, 11, 77 }, true},
		{"a conventional zone's last one", func(c *api.Cmd) { c.Zone, c.At, c.N = 0, 7, 1 }, true},
		{"over its end", func(c *api.Cmd) { c.Zone, c.At, c.N = 0, 7, 2 }, false},
		{"no zone", func(c *api.Cmd) { c.Zone, c.At = 5, 40 }, false},
		{"the last one", func(c *api.Cmd) { c.Zone, c.At = 4, 32 }, true},
		{"none at all", func(c *api.Cmd) { c.Zone = -1 }, false},
		{"as many open as may be", func(c *api.Cmd) { c.Opens = 2 }, true},
		{"more open", func(c *api.Cmd) { c.Opens = 3 }, false},
		{"fewer than none", func(c *api.Cmd) { c.Opens = -1 }, false},
		{"a full zone", func(c *api.Cmd) { c.State = api.ZoneFull }, false},
		{"a read-only zone", func(c *api.Cmd) { c.State = api.ZoneReadOnly }, false},
		{"which the disk refused", func(c *api.Cmd) { c.State, c.Code = api.ZoneReadOnly, api.ErrState }, true},
		{"refused for nothing", func(c *api.Cmd) { c.Code = api.ErrState }, false},
		{"refused as it is full", func(c *api.Cmd) { c.State, c.Code = api.ZoneFull, api.ErrState }, false},
		{"it failed", func(c *api.Cmd) { c.Code = api.ErrMedia }, true},
		{"a reset that failed", func(c *api.Cmd) { c.Kind, c.Code = api.CmdReset, api.ErrMedia }, false},
		{"a read of what is not written", func(c *api.Cmd) { c.Kind = api.CmdRead }, false},
		{"a read of what is", func(c *api.Cmd) { c.Kind, c.Written = api.CmdRead, 2 }, true},
		{"and of more", func(c *api.Cmd) { c.Kind, c.Written = api.CmdRead, 1 }, false},
		{"a read of a full zone that was finished", func(c *api.Cmd) { c.Kind, c.Written, c.State = api.CmdRead, 3, api.ZoneFull }, true},
		{"a read of a zone that is written beyond its end", func(c *api.Cmd) { c.Kind, c.Written = api.CmdRead, 9 }, false},
		{"a read of a zone that is written far below its beginning", func(c *api.Cmd) { c.Kind, c.At, c.Written = api.CmdRead, 18, math.MinInt }, false},
		{"a read of a read-only zone", func(c *api.Cmd) { c.Kind, c.Written, c.State = api.CmdRead, 2, api.ZoneReadOnly }, true},
		{"a read of an offline zone", func(c *api.Cmd) { c.Kind, c.Written, c.State = api.CmdRead, 2, api.ZoneOffline }, false},
		{"a read of a conventional zone", func(c *api.Cmd) { *c = api.Cmd{Kind: api.CmdRead, Zone: 1, At: 8, N: 8} }, true},
		{"a flush", func(c *api.Cmd) { *c = api.Cmd{Kind: api.CmdFlush, Zone: -1, Opens: 2} }, true},
		{"a flush that was refused", func(c *api.Cmd) { *c = api.Cmd{Kind: api.CmdFlush, Zone: -1, Code: api.ErrMedia} }, false},
		{"a flush, as of a hurt zone", func(c *api.Cmd) {
			*c = api.Cmd{Kind: api.CmdFlush, Zone: -1, Code: api.ErrState, State: api.ZoneReadOnly}
		}, false},
		{"a flush of a zone", func(c *api.Cmd) { *c = api.Cmd{Kind: api.CmdFlush} }, false},
		{"a flush, too many open", func(c *api.Cmd) { *c = api.Cmd{Kind: api.CmdFlush, Zone: -1, Opens: 3} }, false},
		{"no kind", func(c *api.Cmd) { c.Kind = 0 }, false},
		{"no kind, of a hurt zone", func(c *api.Cmd) { c.Kind, c.Code, c.State = 8, api.ErrState, api.ZoneOffline }, false},
	} {
		x := ok
		c.do(&x)
		if trace.Keeps(small, x) != c.want {
			t.Errorf("%s: %+v keeps to the rules: %t", c.what, x, !c.want)
		}
	}
}

// P25.1: reads and writes at and about the edges of all that is asked of them.
func TestKeepsSectors(t *testing.T) {
	kept := 0
	for _, kind := range []int{api.CmdRead, api.CmdWrite} {
		for zone := -1; zone < 6; zone++ {
			for at := (zone - 1) * 8; at <= (zone+2)*8; at++ {
				for _, n := range []int{math.MinInt, -1, 0, 1, 2, 5, 7, 8, 9, 16, math.MaxInt} {
					for _, written := range []int{math.MinInt, -8, -1, 0, 1, 2, 3, 5, 7, 8, 9, 16, math.MaxInt} {
						for _, code := range []api.Errno{api.OK, api.ErrMedia} {
							c := api.Cmd{Kind: kind, Zone: zone, At: at, N: n, Code: code, State: api.ZoneImplicit, Written: written}
							want := plainKeeps(small, c)
							judge(t, small, c, want)
							if want {
								kept++
							}
						}
					}
				}
			}
		}
	}
	if kept < 200 {
		t.Error(kept, "commands keep to the rules")
	}
}

// P25.1: each kind, with each code, of a zone in each state.
func TestKeepsStates(t *testing.T) {
	kept := map[int]int{}
	for _, kind := range []int{math.MinInt, -1, 0, 1, 2, 3, 4, 5, 6, 7, 8, math.MaxInt} {
		for _, zone := range []int{math.MinInt, -2, -1, 0, 1, 2, 3, 4, 5, math.MaxInt} {
			for _, state := range states() {
				for _, code := range codes() {
					for _, opens := range []int{math.MinInt, -1, 0, 1, 2, 3, math.MaxInt} {
						// Sectors that can be read, and some that can be written.
						for _, n := range []int{0, 3} {
							c := api.Cmd{Kind: kind, Zone: zone, At: zone*8 + n, N: 2, Code: code, State: state, Written: n + 2*(1-n/3), Opens: opens}
							want := plainKeeps(small, c)
							judge(t, small, c, want)
							if want {
								kept[kind]++
							}
						}
					}
				}
			}
		}
	}
	for kind := api.CmdRead; kind <= api.CmdFlush; kind++ {
		if kept[kind] == 0 {
			t.Error("of kind", kind, "none keeps to the rules")
		}
	}
}

// P25.1: any commands of any shapes; what a command of a kind does not have is
// not asked.
func TestKeepsAny(t *testing.T) {
	kept := 0
	for seed := range uint64(40) {
		number := numbers(seed)
		for range 4000 {
			s := whole()[number(6)]
			c := someCmd(s, number)
			want := plainKeeps(s, c)
			judge(t, s, c, want)
			if want {
				kept++
			}
			if want && c.Kind > api.CmdWrite {
				c.At, c.N, c.Written = number(99)-50, number(99)-50, number(99)-50
				judge(t, s, c, true)
			}
			if want && c.Code == api.ErrState {
				c.At, c.N, c.Written = number(99)-50, number(99)-50, number(99)-50
				judge(t, s, c, true)
			}
		}
	}
	if kept < 10000 {
		t.Error(kept, "commands keep to the rules")
	}
}

// someCmd is a command that perhaps keeps to the rules.
func someCmd(s api.Shape, number func(int) int) api.Cmd {
	c := api.Cmd{Kind: 1 + number(7), Zone: number(s.Conv + s.Seq), State: 1 + number(5), Written: number(s.Len + 1), Opens: number(s.Limit + 1)}
	if c.Kind == api.CmdFlush {
		c.Zone = -1
	}
	if number(4) == 0 {
		c.Code = []api.Errno{api.ErrMedia, api.ErrState, api.ErrEnd}[number(3)]
		c.State = number(8)
	}
	from := number(s.Len)
	if c.Kind == api.CmdWrite && number(4) > 0 {
		from = c.Written
	}
	c.At = c.Zone*s.Len + from
	c.N = 1 + number(max(1, s.Len-from+number(2)))
	switch number(12) {
	case 0:
		c.Zone += number(5) - 2
	case 1:
		c.Opens += number(5) - 2
	case 2:
		c.Kind += number(5) - 2
	case 3:
		c.Written += number(5) - 2
	}
	return c
}

// P25.1: of a shape that may not be no command keeps to the rules; of all others
// there is one.
func TestKeepsShapes(t *testing.T) {
	for _, s := range whole() {
		judge(t, s, api.Cmd{Kind: api.CmdFlush, Zone: -1}, true)
		judge(t, s, api.Cmd{Kind: api.CmdFlush, Zone: -1, Opens: s.Limit}, true)
		judge(t, s, api.Cmd{Kind: api.CmdFlush, Zone: -1, Opens: s.Limit + 1}, false)
		last := s.Conv + s.Seq - 1
		judge(t, s, api.Cmd{Kind: api.CmdWrite, Zone: last, At: last * s.Len, N: s.Len, State: api.ZoneEmpty}, true)
		judge(t, s, api.Cmd{Kind: api.CmdReset, Zone: last + 1, State: api.ZoneFull}, false)
		judge(t, s, api.Cmd{Kind: api.CmdReset, Zone: s.Conv, State: api.ZoneFull}, true)
		judge(t, s, api.Cmd{Kind: api.CmdReset, Zone: s.Conv - 1, State: api.ZoneFull}, false)
	}
	for _, s := range broken() {
		judge(t, s, api.Cmd{Kind: api.CmdFlush, Zone: -1}, false)
		judge(t, s, api.Cmd{Kind: api.CmdRead, N: 1}, false)
		judge(t, s, api.Cmd{Kind: api.CmdRead, Zone: 1, At: s.Len, N: 1}, false)
		judge(t, s, api.Cmd{Kind: api.CmdReset, Zone: s.Conv, State: api.ZoneFull}, false)
	}
}

// P25.1: the first command that does not keep to the rules.
func TestFirst(t *testing.T) {
	good := api.Cmd{Kind: api.CmdFlush, Zone: -1}
	bad := api.Cmd{Kind: api.CmdFlush}
	for _, c := range []struct {
		l    []api.Cmd
		want int
	}{
		{nil, -1}, {[]api.Cmd{}, -1}, {[]api.Cmd{good}, -1}, {[]api.Cmd{good, good, good}, -1},
		{[]api.Cmd{bad}, 0}, {[]api.Cmd{bad, good}, 0}, {[]api.Cmd{good, bad}, 1}, {[]api.Cmd{good, bad, bad, good}, 1}, {[]api.Cmd{good, good, good, bad}, 3},
	} {
		was := slices.Clone(c.l)
		if got := trace.First(small, c.l); got != c.want {
			t.Errorf("%v: %d, not %d", c.l, got, c.want)
		}
		if !slices.Equal(c.l, was) {
			t.Error("changed", c.l)
		}
		for _, s := range broken() {
			want := -1
			if len(c.l) > 0 {
				want = 0
			}
			if got := trace.First(s, c.l); got != want {
				t.Errorf("%v: %v: %d, not %d", s, c.l, got, want)
			}
		}
	}
}
