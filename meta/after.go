package meta

import (
	"slices"

	"thatch/api"
	"thatch/extmap"
	"thatch/geom"
	"thatch/page"
)

// mapOf is the map of a state, which may have more extents than a slot has room
// for; ErrArg, if the state may not be else.
func mapOf(g api.Geom, s api.State) (*extmap.Map, api.Errno) {
	extents := s.Extents
	s.Extents = nil
	if !page.May(g, s) {
		return nil, api.ErrArg
	}
	return extmap.Load(g, extents)
}

// After is the state behind deltas, one behind the other.
func After(g api.Geom, s api.State, l []api.Delta) (api.State, api.Errno) {
	if !geom.May(g) {
		return api.State{}, api.ErrGeom
	}
	m, e := mapOf(g, s)
	if e != api.OK {
		return api.State{}, e
	}
	m, e = m.After(l)
	if e != api.OK {
		return api.State{}, e
	}
	after := api.State{Upto: s.Upto, Homes: slices.Clone(s.Homes), Bad: slices.Clone(s.Bad), Extents: m.Extents()}
	for _, d := range l {
		if !change(g, after, d) {
			return api.State{}, api.ErrArg
		}
	}
	return after, api.OK
}

// change sets in a state what a delta says of homes and bad zones, and tells
// whether its zone may be. That there is such a band the map has asked.
func change(g api.Geom, s api.State, d api.Delta) bool {
	switch d.Kind {
	case api.DeltaHome:
		if d.Zone != api.NoZone && !geom.IsSeq(g, d.Zone) {
			return false
		}
		s.Homes[d.At] = d.Zone
	case api.DeltaBad:
		if !geom.IsSeq(g, d.Zone) {
			return false
		}
		s.Bad[d.Zone-g.Conv] = true
	}
	return true
}
