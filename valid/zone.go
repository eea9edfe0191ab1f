package valid

import (
	"iter"
	"slices"

	"thatch/api"
	"thatch/geom"
	"thatch/span"
)

// live is the set of a zone's live sectors, of extents that may be.
func live(l []api.Extent, zone int) ([]api.Span, api.Errno) {
	var set []api.Span
	e := api.OK
	for x := range in(l, zone) {
		// One by one: there may be more extents than spans that Set takes.
		set, e = span.Add(set, api.Span{At: x.Off, N: x.N})
		if e != api.OK {
			return nil, e
		}
	}
	return set, api.OK
}

// Live is the set of a zone's live sectors, counted from its beginning.
func Live(g api.Geom, l []api.Extent, zone int) ([]api.Span, api.Errno) {
	if e := checkZone(g, l, zone); e != api.OK {
		return nil, e
	}
	return live(l, zone)
}

// bandsOf is the bands of which a sector is in one of the extents, which rise.
func bandsOf(g api.Geom, extents iter.Seq[api.Extent]) []int {
	var bands []int
	for x := range extents {
		first, _ := geom.Band(g, x.At)
		last, _ := geom.Band(g, x.At+x.N-1)
		for band := first; band <= last; band++ {
			bands = append(bands, band)
		}
	}
	return slices.Compact(bands)
}

// Bands is the bands of which a logical sector lies in a zone, rising.
func Bands(g api.Geom, l []api.Extent, zone int) ([]int, api.Errno) {
	if e := checkZone(g, l, zone); e != api.OK {
		return nil, e
	}
	return bandsOf(g, in(l, zone)), api.OK
}

// Touched is the bands of which a logical sector is in an extent, rising.
func Touched(g api.Geom, l []api.Extent) ([]int, api.Errno) {
	if e := check(g, l); e != api.OK {
		return nil, e
	}
	return bandsOf(g, slices.Values(l)), api.OK
}
