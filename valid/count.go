package valid

import (
	"iter"
	"maps"
	"slices"

	"thatch/api"
	"thatch/span"
)

// lying is how many logical sectors lie in each zone in which there are any.
func lying(l []api.Extent) map[int]int {
	counts := map[int]int{}
	for x := range placed(l) {
		counts[x.Zone] += x.N
	}
	return counts
}

// Counts is how many logical sectors lie in each sequential zone, rising.
func Counts(g api.Geom, l []api.Extent) ([]int, api.Errno) {
	if e := check(g, l); e != api.OK {
		return nil, e
	}
	counts := lying(l)
	all := make([]int, g.Seq)
	for i := range all {
		all[i] = counts[g.Conv+i]
	}
	return all, api.OK
}

// Zones goes over the zones in which logical sectors lie, and how many these
// are; over nothing, if the extents may not be.
func Zones(g api.Geom, l []api.Extent) iter.Seq2[int, int] {
	var counts map[int]int
	if May(g, l) {
		// Counted now, as the list may be another one when it is ranged over.
		counts = lying(l)
	}
	return func(yield func(int, int) bool) {
		for _, zone := range slices.Sorted(maps.Keys(counts)) {
			if !yield(zone, counts[zone]) {
				return
			}
		}
	}
}

// Apart tells whether extents may be, and no two logical sectors lie at the
// same sector of a zone.
func Apart(g api.Geom, l []api.Extent) bool {
	if !May(g, l) {
		return false
	}
	for zone, n := range lying(l) {
		// A sector at which several lie is live but once.
		if set, e := live(l, zone); e != api.OK || span.Total(set) != n {
			return false
		}
	}
	return true
}
