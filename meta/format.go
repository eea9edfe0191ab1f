package meta

import (
	"thatch/api"
	"thatch/geom"
	"thatch/handle"
	"thatch/page"
	"thatch/zdisk"
)

// superblocks is how many sectors they are, the first ones of the disk.
const superblocks = 2

// emptyState is the empty state of a disk, some zones of which may be bad from
// the beginning.
func emptyState(d *zdisk.Disk, g api.Geom) (api.State, api.Errno) {
	s, e := page.Empty(g)
	for i := range s.Bad {
		s.Bad[i] = handle.Retire(d, g.Conv+i)
	}
	return s, e
}

// empty is the step that empties each sequential zone that is not bad.
func empty(d *zdisk.Disk, g api.Geom, bad []bool) step {
	return func() api.Errno {
		for i := range bad {
			if bad[i] {
				continue
			}
			if e := handle.Empty(d, g.Conv+i); e != api.OK {
				return e
			}
		}
		return api.OK
	}
}

// Format makes a disk one of a device of which nothing is written.
func Format(d *zdisk.Disk, g api.Geom) api.Errno {
	if !geom.Same(g, d.Shape()) {
		return api.ErrGeom
	}
	s, e := emptyState(d, g)
	if e != api.OK {
		return e
	}
	last, e := checkpoint(d, api.Super{Generation: 1, Geom: g, Epoch: 1, Clean: true}, s)
	if e != api.OK {
		return e
	}
	// The superblocks go first, so that what was there ahead is not found again
	// beside what is written here.
	first := []step{
		blank(d, 0, superblocks),
		d.Flush,
		blank(d, superblocks, g.Conv*g.Len-superblocks),
		empty(d, g, s.Bad),
	}
	return inTurn(append(first, last...)...)
}
