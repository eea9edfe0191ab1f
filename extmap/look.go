package extmap

import (
	"cmp"
	"iter"
	"slices"

	"thatch/api"
	"thatch/geom"
)

// within goes over what the map says of sectors of s: its extents, cut to s.
func (m *Map) within(s api.Span) iter.Seq[api.Extent] {
	return func(yield func(api.Extent) bool) {
		first, behind := m.reach(s)
		for _, x := range m.extents[first:behind] {
			if !yield(part(x, max(x.At, s.At), min(end(x), s.At+s.N))) {
				return
			}
		}
	}
}

// Look is what the map says of sectors of s, and of which of them it says
// nothing.
func (m *Map) Look(s api.Span) ([]api.Extent, []api.Span, api.Errno) {
	if m == nil {
		return nil, nil, api.ErrClosed
	}
	if e := geom.Check(m.geom, s); e != api.OK {
		return nil, nil, e
	}
	var l []api.Extent
	var gaps []api.Span
	from := s.At
	gap := func(to int) {
		if from < to {
			gaps = append(gaps, api.Span{At: from, N: to - from})
		}
	}
	for x := range m.within(s) {
		gap(x.At)
		l = append(l, x)
		from = end(x)
	}
	gap(s.At + s.N)
	return l, gaps, api.OK
}

// At is where a logical sector lies: its zone and the sector of it, and whether
// the map says anything of it.
func (m *Map) At(at int) (int, int, bool) {
	if m == nil {
		return 0, 0, false
	}
	i := m.place(at)
	if i == len(m.extents) || at < m.extents[i].At {
		return 0, 0, false
	}
	x := part(m.extents[i], at, at+1)
	return x.Zone, x.Off, true
}

// Len is how many extents the map has.
func (m *Map) Len() int {
	if m == nil {
		return 0
	}
	return len(m.extents)
}

// Sectors is of how many sectors the map says something.
func (m *Map) Sectors() int {
	if m == nil {
		return 0
	}
	n := 0
	for _, x := range m.extents {
		n += x.N
	}
	return n
}

// Extents is the map's extents.
func (m *Map) Extents() []api.Extent {
	if m == nil {
		return nil
	}
	return slices.Clone(m.extents)
}

// All goes over the map's extents, as they are when it is ranged over.
func (m *Map) All() iter.Seq[api.Extent] {
	return func(yield func(api.Extent) bool) {
		for _, x := range m.Extents() {
			if !yield(x) {
				return
			}
		}
	}
}

// Zones is the zones where something lies, rising.
func (m *Map) Zones() []int {
	if m == nil {
		return nil
	}
	var zones []int
	for _, x := range m.extents {
		if x.Zone != api.NoZone {
			zones = append(zones, x.Zone)
		}
	}
	slices.Sort(zones)
	return slices.Compact(zones)
}

// Inside is the extents that lie in a zone, by the zone's sectors.
func (m *Map) Inside(zone int) []api.Extent {
	if m == nil || zone == api.NoZone {
		return nil
	}
	var l []api.Extent
	for _, x := range m.extents {
		if x.Zone == zone {
			l = append(l, x)
		}
	}
	slices.SortFunc(l, func(a, b api.Extent) int {
		return cmp.Or(cmp.Compare(a.Off, b.Off), cmp.Compare(a.At, b.At))
	})
	return l
}
