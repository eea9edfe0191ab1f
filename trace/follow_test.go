package trace_test

import (
	"math"
	"slices"
	"testing"

	"thatch/api"
	"thatch/trace"
)

// w is a write to a zone of small, of which so many sectors were written; r is a
// read, e a reset.
func w(zone, written, n int) api.Cmd {
	return api.Cmd{Kind: api.CmdWrite, Zone: zone, At: zone*8 + written, N: n, Written: written}
}

func r(zone, written int) api.Cmd {
	return api.Cmd{Kind: api.CmdRead, Zone: zone, At: zone * 8, N: 1, Written: written}
}

func e(zone, written int) api.Cmd {
	return api.Cmd{Kind: api.CmdReset, Zone: zone, Written: written}
}

// as is a command that was answered so.
func as(code api.Errno, c api.Cmd) api.Cmd {
	c.Code = code
	return c
}

type part = []api.Cmd

// follow wants that a trace follows, or does not.
func follow(t *testing.T, what string, want bool, parts ...[]api.Cmd) {
	t.Helper()
	was := make([][]api.Cmd, len(parts))
	for i := range parts {
		was[i] = slices.Clone(parts[i])
	}
	if trace.Follows(small, parts) != want {
		t.Errorf("%s: %v follows: %t", what, parts, !want)
	}
	if !slices.EqualFunc(parts, was, slices.Equal[[]api.Cmd]) {
		t.Errorf("%s: changed", what)
	}
	for _, s := range broken() {
		if trace.Follows(s, parts) {
			t.Errorf("%s: follows, for %v", what, s)
		}
	}
}

// P25.1: what is left by those ahead.
func TestFollows(t *testing.T) {
	follow(t, "nothing", true)
	follow(t, "nothing, in parts", true, nil, part{}, nil)
	follow(t, "at first 0", true, part{r(2, 0)})
	follow(t, "at first 1", false, part{r(2, 1)})
	follow(t, "at first less", false, part{r(2, -1)})
	follow(t, "writes", true, part{w(2, 0, 3), w(2, 3, 1), r(2, 4)})
	follow(t, "a write goes on too far", false, part{w(2, 0, 3), w(2, 4, 1)})
	follow(t, "a write goes back", false, part{w(2, 0, 3), w(2, 2, 1)})
	follow(t, "a read is asked, too", false, part{w(2, 0, 3), r(2, 0)})
	follow(t, "the last one is asked, too", false, part{w(2, 0, 3), r(2, 3), e(2, 3), r(2, 3)})
	follow(t, "a write that was refused", true, part{w(2, 0, 3), as(api.ErrMedia, w(2, 3, 2)), r(2, 3)})
	follow(t, "a write that was refused, counted", false, part{w(2, 0, 3), as(api.ErrMedia, w(2, 3, 2)), r(2, 5)})
	follow(t, "a read writes nothing", false, part{r(2, 0), r(2, 1)})
	follow(t, "a reset", true, part{w(2, 0, 3), e(2, 3), w(2, 0, 1), r(2, 1)})
	follow(t, "a reset that does nothing", false, part{w(2, 0, 3), e(2, 3), r(2, 3)})
	follow(t, "a reset is asked, too", false, part{w(2, 0, 3), e(2, 0)})
	follow(t, "a reset that was refused", true, part{w(2, 0, 3), as(api.ErrState, e(2, 3)), r(2, 3)})
	follow(t, "a reset that was refused, done", false, part{w(2, 0, 3), as(api.ErrState, e(2, 3)), r(2, 0)})
	follow(t, "each zone for itself", true, part{w(2, 0, 3), w(3, 0, 5), w(4, 0, 8), r(2, 3), e(3, 5), r(4, 8), w(3, 0, 1)})
	follow(t, "the last zone", false, part{w(4, 0, 3), r(4, 0)})
	follow(t, "other zones", true, part{r(0, 9), r(1, -7), w(1, 4, 4), w(1, 4, 4), r(5, 3), r(-1, 8), r(math.MaxInt, 1), r(math.MinInt, 1)})
	for kind := api.CmdOpen; kind <= api.CmdFinish; kind++ {
		c := api.Cmd{Kind: kind, Zone: 3, Written: 2, N: 4}
		follow(t, "others write nothing", true, part{w(3, 0, 2), c, r(3, 2)})
		follow(t, "others are asked, too", false, part{w(3, 0, 1), c, r(3, 2)})
	}
}

// P25.1: crashes lie between the parts.
func TestFollowsCrashes(t *testing.T) {
	follow(t, "nothing is lost", true, part{w(2, 0, 3)}, part{r(2, 3)})
	follow(t, "something", true, part{w(2, 0, 3)}, part{r(2, 1), w(2, 1, 4), r(2, 5)})
	follow(t, "all", true, part{w(2, 0, 3)}, part{w(2, 0, 1), r(2, 1)})
	follow(t, "more than all", false, part{w(2, 0, 3)}, part{r(2, -1)})
	follow(t, "more is there", false, part{w(2, 0, 3)}, part{r(2, 4)})
	follow(t, "not within a part", false, part{w(2, 0, 3), r(2, 1)})
	follow(t, "not in the first one", false, part{r(2, 0), r(2, -1)})
	follow(t, "the first one alone may have less", false, part{w(2, 0, 3)}, part{r(2, 2), r(2, 1)})
	follow(t, "though it had not", false, part{w(2, 0, 3)}, part{r(2, 3), r(2, 1)})
	follow(t, "it is asked behind that what was left", false, part{w(2, 0, 3)}, part{r(2, 2), r(2, 3)})
	follow(t, "each zone's first one", true, part{w(2, 0, 3), w(3, 0, 4)}, part{r(2, 2), r(2, 2), r(3, 1), w(3, 1, 1)})
	follow(t, "each part's", true, part{w(2, 0, 7)}, part{r(2, 5)}, part{r(2, 2), w(2, 2, 2)}, part{r(2, 3)})
	follow(t, "it comes no more", false, part{w(2, 0, 7)}, part{r(2, 2)}, part{r(2, 5)})
	follow(t, "a part without it", true, part{w(2, 0, 7)}, part{r(3, 0)}, nil, part{r(2, 4), w(3, 0, 1)}, part{r(3, 0)})
	follow(t, "what was emptied", true, part{w(2, 0, 7), e(2, 7)}, part{w(2, 0, 1)})
	follow(t, "what was emptied is not there", false, part{w(2, 0, 7), e(2, 7)}, part{r(2, 3)})
	follow(t, "a first part without commands", true, nil, part{w(2, 0, 1)}, part{r(2, 0)})
	follow(t, "nothing can be lost of nothing", false, nil, part{r(2, 1)})
	follow(t, "a first write that is refused", true, part{w(2, 0, 5)}, part{as(api.ErrMedia, w(2, 2, 2)), r(2, 2)})
	follow(t, "a first reset", true, part{w(2, 0, 5)}, part{e(2, 4), r(2, 0)})
	follow(t, "other zones", true, part{w(1, 5, 5)}, part{w(1, 3, 2), r(1, 9)})
}

// P25.1: any traces, most of which follow.
func TestFollowsAny(t *testing.T) {
	follows := map[bool]int{}
	for seed := range uint64(6000) {
		number := numbers(seed)
		s := whole()[number(6)]
		written := map[int]int{}
		var parts [][]api.Cmd
		for i := range 1 + number(5) {
			seen := map[int]int{}
			var l []api.Cmd
			for range number(9) {
				c := api.Cmd{Kind: 1 + number(7), Zone: s.Conv - 1 + number(min(s.Seq, 3)+1), N: 1 + number(3)}
				if number(3) == 0 {
					c.Kind = api.CmdWrite
				}
				if number(5) == 0 {
					c.Code = api.ErrMedia
				}
				c.Written = written[c.Zone]
				if i > 0 && seen[c.Zone] == 0 {
					c.Written = number(c.Written + 1)
				}
				if number(25) == 0 {
					c.Written = number(9) - 2
				}
				seen[c.Zone]++
				written[c.Zone] = c.Written
				if c.Code == api.OK && c.Kind == api.CmdWrite {
					written[c.Zone] += c.N
				}
				if c.Code == api.OK && c.Kind == api.CmdReset {
					written[c.Zone] = 0
				}
				// It is not asked what else there is of a zone.
				written[c.Zone] = max(0, written[c.Zone])
				l = append(l, c)
			}
			parts = append(parts, l)
		}
		want := plainFollows(s, parts)
		if trace.Follows(s, parts) != want {
			t.Fatalf("%v: %v follows: %t", s, parts, !want)
		}
		follows[want]++
	}
	if follows[true] < 1000 || follows[false] < 1000 {
		t.Error(follows)
	}
}
