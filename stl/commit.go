package stl

import (
	"thatch/api"
	"thatch/handle"
)

// Within the package these stand beside the errors.
const (
	crowded   api.Errno = -1 - iota // the map has no room for changes
	unlessOff                       // OK, unless the power went: then a zone was perhaps not emptied
)

// open is what refuses any request.
func (v *Device) open() api.Errno {
	if v == nil || v.unmounted {
		return api.ErrClosed
	}
	if v.disk.Off() {
		return api.ErrOff
	}
	return api.OK
}

// writable is what refuses any request by which something is written.
func (v *Device) writable() api.Errno {
	e := v.open()
	if e == api.OK && v.readOnly {
		return api.ErrReadOnly
	}
	return e
}

// told is what is told of a request at its end: where the power is gone by then,
// it is that which refused what it did not do.
func (v *Device) told(e api.Errno) api.Errno {
	switch e {
	case crowded:
		return api.ErrBusy
	case unlessOff:
		e = api.OK
		fallthrough
	case api.ErrIO, api.ErrReadOnly, api.ErrBusy:
		if v.disk.Off() {
			return api.ErrOff
		}
	}
	return e
}

// change lets the device be what it is behind deltas, which are to last.
func (v *Device) change(l ...api.Delta) {
	lies, e := v.lies.After(l)
	if e != api.OK {
		return
	}
	v.lies = lies
	v.changes = append(v.changes, l...)
	for _, d := range l {
		switch d.Kind {
		case api.DeltaHome:
			v.homes[d.At] = d.Zone
		case api.DeltaBad:
			v.bad[d.Zone-v.geom.Conv] = true
		}
	}
}

// commit lets all changes last.
func (v *Device) commit() api.Errno {
	if v.readOnly {
		return api.ErrReadOnly
	}
	switch _, e := v.meta.Commit(v.changes, v.State()); e {
	case api.OK:
		v.changes = nil
		v.counted = v.lies.Len()
		return api.OK
	case api.ErrOff:
		return api.ErrOff
	}
	v.readOnly = true
	return api.ErrReadOnly
}

// room sees to it that the map has room for n changes more, however many extents
// each of them makes.
func (v *Device) room(n int) api.Errno {
	if v.counted+api.DeltaExtents*(len(v.changes)+n) > v.layout.Extents {
		if e := v.commit(); e != api.OK {
			return e
		}
	}
	if v.lies.Len()+api.DeltaExtents*n > v.layout.Extents {
		return crowded
	}
	return api.OK
}

// goBad lets a zone not be used any more.
func (v *Device) goBad(zone int) {
	// It may be so already, where the cache could not free it.
	v.pool.Set(zone, api.RoleBad)
	v.change(api.Delta{Kind: api.DeltaBad, Zone: zone})
}

// giveBack makes a zone free of which nothing is needed any more.
func (v *Device) giveBack(zone int) {
	if handle.Empty(v.disk, zone) != api.OK {
		v.goBad(zone)
		return
	}
	v.pool.Set(zone, api.RoleFree)
}
