package geom

import "thatch/api"

// Slot is the sectors of checkpoint slot i; {0, 0}, if there is none.
func Slot(g api.Geom, i int) api.Span {
	l, e := Layout(g)
	if e != api.OK || i < 0 || i >= slots {
		return api.Span{}
	}
	return api.Span{At: superblocks + i*l.Slot, N: l.Slot}
}

// RingAt is the sector at which the n-th record of the ring stands; -1, if
// there is none.
func RingAt(g api.Geom, n int) int {
	l, e := Layout(g)
	if e != api.OK || n < 0 {
		return -1
	}
	return l.Ring + n%l.RingLen
}

// Zone is the sectors of zone i; {0, 0}, if there is none.
func Zone(g api.Geom, i int) api.Span {
	if !May(g) || i < 0 || i >= g.Conv+g.Seq {
		return api.Span{}
	}
	return api.Span{At: i * g.Len, N: g.Len}
}

// IsSeq tells whether there is such a zone, and it is sequential.
func IsSeq(g api.Geom, zone int) bool {
	return May(g) && zone >= g.Conv && zone < g.Conv+g.Seq
}
