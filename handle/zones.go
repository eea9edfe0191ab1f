package handle

import (
	"thatch/api"
	"thatch/zdisk"
)

// zones is the sequential zones of a disk, as the disk reports them.
type zones struct{ disk *zdisk.Disk }

// report is what the disk says of a zone; ErrArg, if that is no sequential one.
func (s zones) report(zone int) (api.Zone, api.Errno) {
	z, e := s.disk.Zone(zone)
	if e != api.OK || z.Kind != api.KindSeq {
		return api.Zone{}, api.ErrArg
	}
	return z, api.OK
}

// isEmpty tells whether nothing of a zone is written, and all can be.
func (s zones) isEmpty(zone int) bool {
	z, e := s.report(zone)
	return e == api.OK && z.State == api.ZoneEmpty
}

// such is the zones that are so, rising.
func (s zones) such(is func(zone int) bool) []int {
	shape := s.disk.Shape()
	var l []int
	for i := range shape.Seq {
		if zone := shape.Conv + i; is(zone) {
			l = append(l, zone)
		}
	}
	return l
}

// Empty empties a zone, if it is not empty.
func Empty(d *zdisk.Disk, zone int) api.Errno {
	all := zones{d}
	if _, e := all.report(zone); e != api.OK {
		return e
	}
	if all.isEmpty(zone) {
		return api.OK
	}
	return d.Reset(zone)
}

// Retire tells whether a zone is not to be written any more, whatever is done:
// one that there is not is none to be written, either.
func Retire(d *zdisk.Disk, zone int) bool {
	z, e := d.Zone(zone)
	return e != api.OK || z.State == api.ZoneReadOnly || z.State == api.ZoneOffline
}

// Fresh is the sequential zones of which nothing is written.
func Fresh(d *zdisk.Disk) []int {
	all := zones{d}
	return all.such(all.isEmpty)
}
