package extmap

import (
	"iter"

	"thatch/api"
)

// end is the sector behind the last one of an extent.
func end(x api.Extent) int {
	return x.At + x.N
}

// spanOf is the logical sectors of an extent.
func spanOf(x api.Extent) api.Span {
	return api.Span{At: x.At, N: x.N}
}

// part is what an extent says of its sectors from one on, as far as another.
func part(x api.Extent, from, to int) api.Extent {
	if x.Zone != api.NoZone {
		x.Off += from - x.At
	}
	x.At, x.N = from, to-from
	return x
}

// pieces goes over an extent, cut at each multiple of MaxExtent.
func pieces(x api.Extent) iter.Seq[api.Extent] {
	return func(yield func(api.Extent) bool) {
		for from := x.At; from < end(x); {
			to := min((from/api.MaxExtent+1)*api.MaxExtent, end(x))
			if !yield(part(x, from, to)) {
				return
			}
			from = to
		}
	}
}

// goesOn tells whether b goes on where a ends, so that both are one extent.
func goesOn(a, b api.Extent) bool {
	if end(a) != b.At || b.At%api.MaxExtent == 0 || a.Zone != b.Zone {
		return false
	}
	return a.Zone == api.NoZone || a.Off+a.N == b.Off
}

// joined is the fewest extents that say what l's say, which rise, and of which
// none goes over a multiple of MaxExtent.
func joined(l ...api.Extent) []api.Extent {
	var fewest []api.Extent
	for _, x := range l {
		last := len(fewest) - 1
		if last >= 0 && goesOn(fewest[last], x) {
			fewest[last].N += x.N
		} else {
			fewest = append(fewest, x)
		}
	}
	return fewest
}
