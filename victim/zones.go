package victim

import (
	"cmp"
	"slices"

	"thatch/api"
	"thatch/geom"
	"thatch/valid"
)

// checkOrder tells what is wrong with the numbers of sequential zones, each of
// which is to be there once.
func checkOrder(g api.Geom, order []int) api.Errno {
	places := map[int]int{}
	for place, zone := range order {
		if !geom.IsSeq(g, zone) {
			return api.ErrArg
		}
		places[zone] = place
	}
	if len(places) < len(order) {
		return api.ErrTwice
	}
	return api.OK
}

// byZone is the extents of each zone, in their order.
func byZone(l []api.Extent) map[int][]api.Extent {
	parts := map[int][]api.Extent{}
	for _, x := range l {
		parts[x.Zone] = append(parts[x.Zone], x)
	}
	return parts
}

// Choices is a choice for each zone of an order, by the extents of a map.
func Choices(g api.Geom, l []api.Extent, order []int) ([]api.Choice, api.Errno) {
	counts, e := valid.Counts(g, l)
	if e != api.OK {
		return nil, e
	}
	if e := checkOrder(g, order); e != api.OK {
		return nil, e
	}
	choices := make([]api.Choice, len(order))
	// A zone's own extents are enough to tell its bands, and all of them are not
	// gone through anew for each zone.
	parts := byZone(l)
	for age, zone := range order {
		bands, e := valid.Bands(g, parts[zone], zone)
		if e != api.OK {
			return nil, e
		}
		choices[age] = api.Choice{Zone: zone, Live: counts[zone-g.Conv], Bands: len(bands), Age: age}
	}
	return choices, api.OK
}

// extentsOf is how many extents have a sector of each band.
func extentsOf(g api.Geom, l []api.Extent) map[int]int {
	counts := map[int]int{}
	for _, x := range l {
		first, _ := geom.Band(g, x.At)
		last, _ := geom.Band(g, x.At+x.N-1)
		for band := first; band <= last; band++ {
			counts[band]++
		}
	}
	return counts
}

// Crowd is the bands of which extents have a sector, at most so many of them,
// those of which the most extents have one.
func Crowd(g api.Geom, l []api.Extent, most int) ([]int, api.Errno) {
	bands, e := valid.Touched(g, l)
	if e != api.OK {
		return nil, e
	}
	if most < 1 {
		return nil, api.ErrArg
	}
	counts := extentsOf(g, l)
	// They rise, and equal ones stay as they are.
	slices.SortStableFunc(bands, func(a, b int) int {
		return cmp.Compare(counts[b], counts[a])
	})
	return bands[:min(most, len(bands))], api.OK
}
