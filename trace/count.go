package trace

import (
	"thatch/api"
	"thatch/polar"
)

// Counts is how many commands of each kind were OK.
func Counts(l []api.Cmd) map[int]int {
	counts := map[int]int{}
	for _, c := range l {
		if c.Code == api.OK && within(c.Kind, api.CmdRead, api.CmdFlush) {
			counts[c.Kind]++
		}
	}
	return counts
}

// Written is how many sectors were written.
func Written(l []api.Cmd) int {
	n := 0
	for _, c := range l {
		if c.Code == api.OK && c.Kind == api.CmdWrite {
			n += c.N
		}
	}
	return n
}

// Way is where the head went: what was read and written, in order.
func Way(l []api.Cmd) []api.Span {
	var way []api.Span
	for _, c := range l {
		if c.Code == api.OK && (c.Kind == api.CmdRead || c.Kind == api.CmdWrite) {
			way = append(way, api.Span{At: c.At, N: c.N})
		}
	}
	return way
}

// Cost is how far the head went, from the platter's first sector on.
func Cost(s api.Shape, l []api.Cmd) int {
	if !may(s) {
		return 0
	}
	// A zone is a track.
	cost, _ := polar.Walk(0, Way(l), s.Len)
	return cost
}

// Resets is how often a zone was emptied.
func Resets(l []api.Cmd, zone int) int {
	n := 0
	for _, c := range l {
		if c.Code == api.OK && c.Kind == api.CmdReset && c.Zone == zone {
			n++
		}
	}
	return n
}
