package zdisk

import (
	"iter"

	"thatch/api"
	"thatch/zone"
)

// command gives the disk a command: what is told by do is answered, and noted
// beside what was there ahead of it. All but a flush name a zone.
func (d *Disk) command(c api.Cmd, do func(z *diskZone) api.Errno) api.Errno {
	if d == nil {
		return api.ErrClosed
	}
	if d.off {
		return api.ErrOff
	}
	z := d.zone(c.Zone)
	c.Opens = d.Opens()
	if z == nil {
		c.Zone = -1
	} else {
		c.State, c.Written = z.State, z.Written
	}
	if z == nil && c.Kind != api.CmdFlush {
		c.Code = api.ErrArg
	} else {
		c.Code = do(z)
	}
	d.cmds = append(d.cmds, c)
	if c.Code == api.OK && c.Kind != api.CmdRead {
		d.wear()
	}
	return c.Code
}

// wear brings the end of the power nearer by a command, if it is to go.
func (d *Disk) wear() {
	if d.stop == 0 {
		return
	}
	d.stop--
	d.off = d.stop == 0
}

// Read is the bytes of n sectors.
func (d *Disk) Read(at, n int) ([]byte, api.Errno) {
	var b []byte
	e := d.command(api.Cmd{Kind: api.CmdRead, Zone: d.zoneOf(at), At: at, N: n}, func(z *diskZone) api.Errno {
		if e := zone.Read(z.Zone, at, n); e != api.OK {
			return e
		}
		for i := range n {
			if _, is := d.spoiled[at+i]; is {
				return api.ErrMedia
			}
		}
		b = make([]byte, 0, n*api.SectorBytes)
		for i := range n {
			s := d.sectors[at+i]
			b = append(b, s[:]...)
		}
		return api.OK
	})
	return b, e
}

// Write writes whole sectors.
func (d *Disk) Write(at int, b []byte) api.Errno {
	n := len(b) / api.SectorBytes
	return d.command(api.Cmd{Kind: api.CmdWrite, Zone: d.zoneOf(at), At: at, N: n}, func(z *diskZone) api.Errno {
		if n*api.SectorBytes != len(b) {
			return api.ErrArg
		}
		written, e := zone.Write(z.Zone, at, n)
		if e != api.OK {
			return e
		}
		inTheWay, e := d.inTheWay(z)
		if e != api.OK {
			return e
		}
		// One that fails changes nothing: no zone is closed for it, either.
		if d.fails > 0 {
			d.fails--
			return api.ErrMedia
		}
		inTheWay.giveWay()
		z.Zone = written
		for i := range n {
			d.put(z, at+i, b[i*api.SectorBytes:])
		}
		return api.OK
	})
}

// put writes one sector of a zone, with the first bytes of b.
func (d *Disk) put(z *diskZone, at int, b []byte) {
	if z.Kind == api.KindConv {
		d.earlier[at] = append(d.earlier[at], d.sectors[at])
	}
	var s sector
	copy(s[:], b)
	d.sectors[at] = s
	delete(d.spoiled, at)
}

// inTheWay is the zone that has to be closed for z's sake, if that is to be
// open; nil, if none has to be.
func (d *Disk) inTheWay(z *diskZone) (*diskZone, api.Errno) {
	if z.State != api.ZoneEmpty && z.State != api.ZoneClosed || d.Opens() < d.shape.Limit {
		return nil, api.OK
	}
	for i := range d.zones {
		if d.zones[i].State == api.ZoneImplicit {
			return &d.zones[i], api.OK
		}
	}
	return nil, api.ErrLimit
}

// giveWay closes a zone for another one's sake.
func (z *diskZone) giveWay() {
	if z != nil {
		z.turn(zone.Close)
	}
}

// turn makes of a zone what a rule says, if that does not refuse it.
func (z *diskZone) turn(rule func(api.Zone) (api.Zone, api.Errno)) api.Errno {
	turned, e := rule(z.Zone)
	if e == api.OK {
		z.Zone = turned
	}
	return e
}

// Open opens zone i explicitly.
func (d *Disk) Open(i int) api.Errno {
	return d.command(api.Cmd{Kind: api.CmdOpen, Zone: i}, func(z *diskZone) api.Errno {
		opened, e := zone.Open(z.Zone)
		if e != api.OK {
			return e
		}
		inTheWay, e := d.inTheWay(z)
		if e != api.OK {
			return e
		}
		inTheWay.giveWay()
		z.Zone = opened
		return api.OK
	})
}

// Close closes zone i.
func (d *Disk) Close(i int) api.Errno {
	return d.command(api.Cmd{Kind: api.CmdClose, Zone: i}, func(z *diskZone) api.Errno {
		return z.turn(zone.Close)
	})
}

// Finish makes zone i full.
func (d *Disk) Finish(i int) api.Errno {
	return d.command(api.Cmd{Kind: api.CmdFinish, Zone: i}, func(z *diskZone) api.Errno {
		return z.turn(zone.Finish)
	})
}

// Reset empties zone i.
func (d *Disk) Reset(i int) api.Errno {
	return d.command(api.Cmd{Kind: api.CmdReset, Zone: i}, func(z *diskZone) api.Errno {
		e := z.turn(zone.Reset)
		if e != api.OK {
			return e
		}
		for at := z.Start; at < z.Start+z.Len; at++ {
			delete(d.sectors, at)
			delete(d.spoiled, at)
		}
		z.settle()
		return api.OK
	})
}

// Flush makes all sure.
func (d *Disk) Flush() api.Errno {
	return d.command(api.Cmd{Kind: api.CmdFlush, Zone: -1}, func(*diskZone) api.Errno {
		d.earlier = map[int][]sector{}
		for i := range d.zones {
			d.zones[i].settle()
		}
		return api.OK
	})
}

// settle makes sure how a zone is.
func (z *diskZone) settle() {
	z.sure = z.Written
	z.full = z.State == api.ZoneFull
}

// Cmds goes over all commands that the disk was given.
func (d *Disk) Cmds() iter.Seq[api.Cmd] {
	return func(yield func(api.Cmd) bool) {
		if d == nil {
			return
		}
		for _, c := range d.cmds {
			if !yield(c) {
				return
			}
		}
	}
}
