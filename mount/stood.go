package mount

import (
	"cmp"
	"iter"
	"slices"

	"thatch/api"
	"thatch/batch"
	"thatch/geom"
	"thatch/meta"
	"thatch/page"
	"thatch/zdisk"
)

// sequential goes over the sequential zones, rising: the place of each one among
// them, and its number.
func sequential(g api.Geom) iter.Seq2[int, int] {
	return func(yield func(int, int) bool) {
		for i := range g.Seq {
			if !yield(i, g.Conv+i) {
				return
			}
		}
	}
}

// inOrder is a list, those with the lesser number first; of equal ones as they
// were.
func inOrder[T any](l []T, number func(T) int) []T {
	sorted := slices.Clone(l)
	slices.SortStableFunc(sorted, func(a, b T) int {
		return cmp.Compare(number(a), number(b))
	})
	return sorted
}

// content is what can be read of a zone, from its beginning on.
func content(d *zdisk.Disk, z api.Zone) []byte {
	var b []byte
	for i := range z.Written {
		sector, e := d.Read(z.Start+i, 1)
		if e != api.OK {
			break
		}
		b = append(b, sector...)
	}
	return b
}

// scan is what stands in a zone.
func scan(d *zdisk.Disk, g api.Geom, z api.Zone) []api.Stood {
	var l []api.Stood
	for off, b := range batch.Scan(g, content(d, z)) {
		l = append(l, api.Stood{Zone: z.Number, Off: off, Batch: b})
	}
	return l
}

// Scan is what stands in a zone of a device's disk.
func Scan(d *zdisk.Disk, zone int) ([]api.Stood, api.Errno) {
	m, _, e := meta.Load(d)
	if e != api.OK {
		return nil, e
	}
	g := m.Super().Geom
	z, e := d.Zone(zone)
	if e != api.OK || !geom.IsSeq(g, zone) {
		return nil, api.ErrArg
	}
	return scan(d, g, z), api.OK
}

// mayStand tells whether there may be such a batch, at such a place.
func mayStand(g api.Geom, x api.Stood) bool {
	return batch.May(g, x.Batch) && geom.IsSeq(g, x.Zone) &&
		x.Off >= 0 && x.Off <= g.Len-batch.Sectors(x.Batch)
}

// Roll is a state behind the batches that stand in zones.
func Roll(g api.Geom, s api.State, l []api.Stood) (api.State, api.Errno) {
	if !geom.May(g) {
		return api.State{}, api.ErrGeom
	}
	if !page.May(g, s) || slices.ContainsFunc(l, func(x api.Stood) bool { return !mayStand(g, x) }) {
		return api.State{}, api.ErrArg
	}
	return roll(g, s, l)
}

// roll is that of a state that may have more extents than a slot has room for.
func roll(g api.Geom, s api.State, l []api.Stood) (api.State, api.Errno) {
	upto := s.Upto
	var deltas []api.Delta
	for _, x := range inOrder(l, func(x api.Stood) int { return x.Batch.Seq }) {
		// What is up to it the state has already, or something newer.
		if x.Batch.Seq > s.Upto {
			deltas = append(deltas, batch.Deltas(x.Batch, x.Zone, x.Off)...)
			upto = x.Batch.Seq
		}
	}
	if len(deltas) == 0 {
		return clone(s), api.OK
	}
	s, e := meta.After(g, s, deltas)
	if e != api.OK {
		return api.State{}, e
	}
	s.Upto = upto
	return s, api.OK
}

// clone is the same state, in memory of its own.
func clone(s api.State) api.State {
	s.Homes = slices.Clone(s.Homes)
	s.Bad = slices.Clone(s.Bad)
	s.Extents = slices.Clone(s.Extents)
	return s
}
