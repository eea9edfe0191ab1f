package zdisk

import (
	"thatch/api"
	"thatch/zone"
)

// Crash takes what is not sure, but for what is named, and brings the power back.
func (d *Disk) Crash(keep []api.Keep, prefix []int) api.Errno {
	if d == nil {
		return api.ErrClosed
	}
	backs := map[int]int{}
	for _, k := range keep {
		if !within(k.Sector, 0, d.shape.Conv*d.shape.Len-1) {
			return api.ErrArg
		}
		if _, named := backs[k.Sector]; !named {
			backs[k.Sector] = k.Back
		}
	}
	d.takeConv(backs)
	d.takeSeq(prefix)
	d.fails, d.stop, d.off = 0, 0, false
	return api.OK
}

// takeConv takes the unsure contents of conventional sectors, but for those
// that are so far back.
func (d *Disk) takeConv(backs map[int]int) {
	for at, contents := range d.earlier {
		back, named := backs[at]
		switch unsure := len(contents); {
		case !named, back < 0, back >= unsure:
			d.sectors[at] = contents[0]
		case back > 0:
			d.sectors[at] = contents[unsure-back]
		}
	}
	d.earlier = map[int][]sector{}
}

// takeSeq takes the unsure sectors of sequential zones, but for so many of each.
func (d *Disk) takeSeq(prefix []int) {
	for k := range d.shape.Seq {
		z := d.zone(d.shape.Conv + k)
		kept := z.sure
		if k < len(prefix) {
			kept += min(max(prefix[k], 0), z.Written-z.sure)
		}
		for at := z.Start + kept; at < z.Start+z.Written; at++ {
			delete(d.sectors, at)
		}
		z.Written = kept
		z.State = z.behindCrash()
		z.settle()
	}
}

// behindCrash is a sequential zone's state, when the crash has taken what it takes.
func (z *diskZone) behindCrash() int {
	switch {
	case z.State == api.ZoneReadOnly, z.State == api.ZoneOffline:
		return z.State
	case z.full, z.Written == z.Len:
		return api.ZoneFull
	case z.Written == 0:
		return api.ZoneEmpty
	}
	return api.ZoneClosed
}

// Hurt makes zone i read-only, or offline.
func (d *Disk) Hurt(i, state int) api.Errno {
	if d == nil {
		return api.ErrClosed
	}
	z := d.zone(i)
	if z == nil {
		return api.ErrArg
	}
	return z.turn(func(is api.Zone) (api.Zone, api.Errno) {
		return zone.Hurt(is, state)
	})
}

// Spoil makes a sector one that can not be read, till it is written again.
func (d *Disk) Spoil(at int) api.Errno {
	if d == nil {
		return api.ErrClosed
	}
	z := d.zone(d.zoneOf(at))
	if z == nil {
		return api.ErrArg
	}
	if _, is := d.spoiled[at]; is || z.Kind == api.KindSeq && at >= z.Start+z.Written {
		return api.ErrNone
	}
	d.spoiled[at] = struct{}{}
	return api.OK
}

// Fail makes the next n writes fail.
func (d *Disk) Fail(n int) api.Errno {
	if d == nil {
		return api.ErrClosed
	}
	if n < 0 {
		return api.ErrArg
	}
	d.fails = n
	return api.OK
}

// Stop lets the power go behind n commands; if n is below 0 it is not to go.
func (d *Disk) Stop(n int) api.Errno {
	if d == nil {
		return api.ErrClosed
	}
	if d.off {
		return api.OK
	}
	d.stop = max(n, 0)
	d.off = n == 0
	return api.OK
}
