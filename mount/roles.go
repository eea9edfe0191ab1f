package mount

import (
	"slices"

	"thatch/api"
	"thatch/geom"
	"thatch/page"
	"thatch/valid"
	"thatch/zdisk"
)

// found is a device's state, and beside it what its disk reports of sequential
// zones, and what stands in them.
type found struct {
	geom  api.Geom
	state api.State
	zones []api.Zone
	stood []api.Stood
}

// find is what is found on a disk beside a state.
func find(d *zdisk.Disk, g api.Geom, s api.State) found {
	f := found{geom: g, state: s}
	for i, zone := range sequential(g) {
		// A disk of that shape has each of them.
		z, _ := d.Zone(zone)
		f.zones = append(f.zones, z)
		if !s.Bad[i] && !f.isHome(zone) && z.State != api.ZoneOffline {
			f.stood = append(f.stood, scan(d, g, z)...)
		}
	}
	return f
}

// isHome tells whether a zone is a band's home.
func (f found) isHome(zone int) bool {
	return slices.Contains(f.state.Homes, zone)
}

// needed is how many things need each zone that is needed for the cache's sake:
// logical sectors that lie there, and batches that the state does not have yet.
func (f found) needed() map[int]int {
	needed := map[int]int{}
	for zone, n := range valid.Zones(f.geom, f.state.Extents) {
		needed[zone] += n
	}
	for _, x := range f.stood {
		if x.Batch.Seq > f.state.Upto {
			needed[x.Zone]++
		}
	}
	return needed
}

// least is the least number of a batch in each zone in which one stands.
func (f found) least() map[int]int {
	least := map[int]int{}
	for _, x := range f.stood {
		n, is := least[x.Zone]
		if !is || x.Batch.Seq < n {
			least[x.Zone] = x.Batch.Seq
		}
	}
	return least
}

// walk is what zones are for, in which order those of the cache were sealed, and
// which ones are to be emptied.
type walk struct {
	geom  api.Geom
	roles []int
	order []int
	waste []int
}

// walk goes over all sequential zones once.
func (f found) walk() *walk {
	w := &walk{geom: f.geom}
	needed := f.needed()
	for i, zone := range sequential(f.geom) {
		state := f.zones[i].State
		role := api.RoleFree
		switch {
		case f.state.Bad[i]:
			role = api.RoleBad
		case f.isHome(zone):
			role = api.RoleHome
		case needed[zone] > 0:
			role = api.RoleSealed
			w.order = append(w.order, zone)
		case state == api.ZoneReadOnly, state == api.ZoneOffline:
			role = api.RoleBad
		case state != api.ZoneEmpty:
			w.waste = append(w.waste, zone)
		}
		w.roles = append(w.roles, role)
	}
	least := f.least()
	w.order = inOrder(w.order, func(zone int) int { return least[zone] })
	return w
}

// Roles is what zones are for, by a state, what is reported of them, and what
// stands in them; the sealed ones, in order; and the waste ones, rising.
func Roles(g api.Geom, s api.State, zones []api.Zone, l []api.Stood) ([]int, []int, []int, api.Errno) {
	if !geom.May(g) {
		return nil, nil, nil, api.ErrGeom
	}
	noZone := func(x api.Stood) bool { return !geom.IsSeq(g, x.Zone) }
	if !page.May(g, s) || len(zones) != g.Seq || slices.ContainsFunc(l, noZone) {
		return nil, nil, nil, api.ErrArg
	}
	w := found{geom: g, state: s, zones: zones, stood: l}.walk()
	return w.roles, w.order, w.waste, api.OK
}
