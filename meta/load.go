package meta

import (
	"thatch/api"
	"thatch/geom"
	"thatch/page"
	"thatch/ring"
	"thatch/super"
	"thatch/zdisk"
)

// Load is what lasts of the device on a disk, and its state.
func Load(d *zdisk.Disk) (*Meta, api.State, api.Errno) {
	m, e := loadSuper(d)
	if e != api.OK {
		return nil, api.State{}, e
	}
	s, e := m.loadSlot()
	if e != api.OK {
		return nil, api.State{}, e
	}
	s, e = m.loadRing(s)
	if e != api.OK {
		return nil, api.State{}, e
	}
	return m, s, api.OK
}

// loadSuper is a meta of the superblock that holds on a disk.
func loadSuper(d *zdisk.Disk) (*Meta, api.Errno) {
	if d == nil {
		return nil, api.ErrGeom
	}
	if d.Off() {
		return nil, api.ErrOff
	}
	copies, e := readAll(d, api.Span{N: superblocks})
	if e != api.OK {
		return nil, e
	}
	b, e := super.Pick(copies[0], copies[1])
	if e != api.OK {
		return nil, e
	}
	if !geom.Same(b.Geom, d.Shape()) {
		return nil, api.ErrGeom
	}
	return &Meta{disk: d, super: b}, api.OK
}

// loadSlot is the state of the checkpoint that holds.
func (m *Meta) loadSlot() (api.State, api.Errno) {
	pages, e := readAll(m.disk, geom.Slot(m.super.Geom, m.super.Slot))
	if e != api.OK {
		return api.State{}, e
	}
	s, e := page.Decode(m.super.Geom, m.super.Generation, pages)
	if e != api.OK {
		return api.State{}, api.ErrMeta
	}
	return s, api.OK
}

// loadRing is a state behind all that is found in the journal.
func (m *Meta) loadRing(s api.State) (api.State, api.Errno) {
	groups, upto, next, e := ring.Find(m.disk, m.super.Geom, m.super.Epoch, m.super.First)
	if e != api.OK {
		return api.State{}, e
	}
	m.found = next
	if len(groups) == 0 {
		return s, api.OK
	}
	var all []api.Delta
	for _, l := range groups {
		all = append(all, l...)
	}
	s, e = After(m.super.Geom, s, all)
	if e != api.OK {
		return api.State{}, api.ErrMeta
	}
	s.Upto = upto
	return s, api.OK
}
