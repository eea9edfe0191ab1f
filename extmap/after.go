package extmap

import (
	"slices"

	"thatch/api"
	"thatch/geom"
	"thatch/record"
)

// Fork is another map that is the same.
func (m *Map) Fork() *Map {
	if m == nil {
		return nil
	}
	return &Map{geom: m.geom, extents: slices.Clone(m.extents)}
}

// After is the map behind deltas, one behind the other.
func (m *Map) After(l []api.Delta) (*Map, api.Errno) {
	if m == nil {
		return nil, api.ErrClosed
	}
	after := m.Fork()
	for _, d := range l {
		if e := after.change(d); e != api.OK {
			return nil, e
		}
	}
	return after, api.OK
}

// change lets the map say what it says behind a delta.
func (m *Map) change(d api.Delta) api.Errno {
	if !record.MayDelta(d) {
		return api.ErrArg
	}
	switch d.Kind {
	case api.DeltaPut:
		return m.Put(api.Extent{At: d.At, N: d.N, Zone: d.Zone, Off: d.Off})
	case api.DeltaHole:
		return m.Hole(api.Span{At: d.At, N: d.N})
	case api.DeltaHome:
		// The sectors of a band that there is not are none, which Drop refuses.
		return m.Drop(geom.BandSpan(m.geom, d.At))
	}
	return api.OK
}

// Diff is the deltas behind which a says what b says.
func Diff(a, b *Map) ([]api.Delta, api.Errno) {
	if a == nil || b == nil || a.geom != b.geom {
		return nil, api.ErrGeom
	}
	var l []api.Delta
	both := 0
	for _, x := range b.extents {
		from := x.At
		other := func(to int) {
			if from < to {
				l = append(l, deltaOf(part(x, from, to)))
			}
		}
		for y := range a.within(spanOf(x)) {
			both += y.N
			if y == part(x, y.At, end(y)) {
				other(y.At)
				from = end(y)
			}
		}
		other(end(x))
	}
	// No delta lets a map say nothing of single sectors.
	if both < a.Sectors() {
		return nil, api.ErrArg
	}
	return l, api.OK
}

// deltaOf is the delta behind which a map says what an extent says.
func deltaOf(x api.Extent) api.Delta {
	if x.Zone == api.NoZone {
		return api.Delta{Kind: api.DeltaHole, At: x.At, N: x.N}
	}
	return api.Delta{Kind: api.DeltaPut, At: x.At, N: x.N, Zone: x.Zone, Off: x.Off}
}
