package trace_test

import (
	"math"
	"slices"

	"thatch/api"
)

// sh is a shape.
func sh(conv, seq, length, limit int) api.Shape {
	return api.Shape{Conv: conv, Seq: seq, Len: length, Limit: limit}
}

// The shape by which most commands are judged: zones 0 and 1 are conventional, 2
// to 4 sequential, of eight sectors each.
var small = sh(2, 3, 8, 2)

// whole are shapes that may be; broken are some that may not.
func whole() []api.Shape {
	return []api.Shape{small, sh(1, 1, 4, 1), sh(16, 128, 1024, 128), sh(16, 1, 4, 1), sh(1, 128, 5, 1), sh(1, 2, 1024, 2)}
}

func broken() []api.Shape {
	l := []api.Shape{{}, sh(0, 3, 8, 2), sh(17, 3, 8, 2), sh(2, 0, 8, 0), sh(2, 129, 8, 2), sh(2, 3, 3, 2), sh(2, 3, 1025, 2), sh(2, 3, 8, 0), sh(2, 3, 8, 4)}
	for _, x := range []int{math.MinInt, -1, 1 << 20, math.MaxInt} {
		l = append(l, sh(x, 3, 8, 2), sh(2, x, 8, 2), sh(2, 3, x, 2), sh(2, 3, 8, x), sh(x, x, x, x))
	}
	return l
}

// numbers is some numbers that a seed makes.
func numbers(seed uint64) func(below int) int {
	x := seed*0x9E3779B97F4A7C15 + 1
	return func(below int) int {
		x ^= x << 13
		x ^= x >> 7
		x ^= x << 17
		return int(x>>11) % below
	}
}

// states are all states of api.go, and two that are none.
func states() []int {
	return []int{-1, api.ZoneFree, api.ZoneEmpty, api.ZoneImplicit, api.ZoneExplicit, api.ZoneClosed, api.ZoneFull, api.ZoneReadOnly, api.ZoneOffline, 8}
}

// allowed are the states of a zone in which a command may be done, kind by kind.
// (A state that is none is not named but of those that may be closed.)
var allowed = map[int][]int{
	api.CmdRead:   {-1, 0, 1, 2, 3, 4, 5, 6, 8},
	api.CmdWrite:  {-1, 0, 1, 2, 3, 4, 8},
	api.CmdOpen:   {-1, 0, 1, 2, 3, 4, 8},
	api.CmdClose:  {2, 3, 4},
	api.CmdFinish: {-1, 0, 1, 2, 3, 4, 5, 8},
	api.CmdReset:  {-1, 0, 1, 2, 3, 4, 5, 8},
}

// plainKeeps judges a command of a shape that may be, sector by sector.
func plainKeeps(s api.Shape, c api.Cmd) bool {
	if c.Opens < 0 || c.Opens > s.Limit {
		return false
	}
	if c.Kind == 7 {
		return c.Zone == -1 && c.Code == 0
	}
	may, is := allowed[c.Kind]
	if !is || c.Zone < 0 || c.Zone >= s.Conv+s.Seq {
		return false
	}
	sectors := c.Kind == 1 || c.Kind == 2
	switch {
	case c.Code == 52:
		return c.State == 6 || c.State == 7
	case c.Code != 0 && c.Code != 61, c.Code == 61 && !sectors:
		return false
	case !slices.Contains(may, c.State):
		return false
	}
	seq := c.Zone >= s.Conv
	if !sectors {
		return seq
	}
	return plainSectors(s, c, seq)
}

// plainSectors judges the sectors of a read or write.
func plainSectors(s api.Shape, c api.Cmd, seq bool) bool {
	if c.N < 1 || c.N > s.Len {
		return false
	}
	var inside, written []int
	for i := range s.Len {
		inside = append(inside, c.Zone*s.Len+i)
		if i < c.Written {
			written = append(written, c.Zone*s.Len+i)
		}
	}
	for i := range c.N {
		if !slices.Contains(inside, c.At+i) || c.Kind == 1 && seq && !slices.Contains(written, c.At+i) {
			return false
		}
	}
	if c.Kind == 1 {
		return !seq || c.Written <= s.Len
	}
	return !seq || c.Written < s.Len && len(written) == c.Written && inside[c.Written] == c.At
}

// plainFollows goes over a trace command by command: what each zone may have.
func plainFollows(s api.Shape, parts [][]api.Cmd) bool {
	for zone := s.Conv; zone < s.Conv+s.Seq; zone++ {
		most := 0
		for i, part := range parts {
			first := true
			for _, c := range part {
				if c.Zone != zone {
					continue
				}
				less := first && i > 0 && c.Written >= 0 && c.Written < most
				if c.Written != most && !less {
					return false
				}
				first, most = false, c.Written
				if c.Code == 0 && c.Kind == 2 {
					most += c.N
				}
				if c.Code == 0 && c.Kind == 6 {
					most = 0
				}
			}
		}
	}
	return true
}
