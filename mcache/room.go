package mcache

import (
	"thatch/api"
	"thatch/batch"
	"thatch/handle"
	"thatch/pool"
)

// tries is how many zones are written to for one batch's sake, till it is given up.
const tries = 2

// put appends a batch, and tells what it says of the map.
func (c *Cache) put(b api.Batch, data []byte) ([]api.Delta, api.Errno) {
	sectors, e := batch.Encode(c.geom, b, data)
	if e != api.OK {
		return nil, e
	}
	var l []api.Delta
	e = c.try(batch.Sectors(b), func(h *handle.Handle) api.Errno {
		off, e := h.Append(sectors)
		if e == api.OK {
			l = batch.Deltas(b, h.Zone(), off)
		}
		return e
	})
	return l, e
}

// try does something with a handle that has n sectors left; where that is
// refused its zone is put by, and another one is tried.
func (c *Cache) try(n int, do func(h *handle.Handle) api.Errno) api.Errno {
	for range tries {
		if e := c.room(n); e != api.OK {
			return e
		}
		if do(c.handle) == api.OK {
			return api.OK
		}
		c.PutBy()
	}
	return api.ErrIO
}

// writing is the handle of the active zone; nil, if there is none: the pool is
// shared, and the zone of the handle may have another role by now.
func (c *Cache) writing() *handle.Handle {
	if c.handle.Zone() != c.Active() {
		return nil
	}
	return c.handle
}

// room sees to it that there is a handle that has n sectors left.
func (c *Cache) room(n int) api.Errno {
	var zone int
	var h *handle.Handle
	var e api.Errno
	if c.writing().Left() >= n {
		return api.OK
	}
	c.PutBy()
take:
	zone, e = c.pool.Take(api.RoleActive)
	if e != api.OK {
		return api.ErrBusy
	}
	h, e = handle.New(c.disk, zone)
	if e != api.OK || h.Left() < n {
		c.pool.Set(zone, api.RoleBad)
		goto take
	}
	c.handle = h
	return api.OK
}

// PutBy puts the active zone by, if there is one: nothing is written to it any
// more, till it was freed.
func (c *Cache) PutBy() bool {
	zone := c.Active()
	if zone < 0 {
		return false
	}
	// One that is dead gives no command, and what is refused is not told: no
	// more is written to the zone in either case.
	c.writing().Seal()
	c.handle = nil
	c.pool.Set(zone, api.RoleSealed)
	c.order = append(c.order, zone)
	return true
}

// Fits tells whether batches of so many sectors would have room, one behind the
// other, if each zone that is taken for them can be written whole.
func (c *Cache) Fits(l []int) bool {
	if c == nil {
		return false
	}
	p, e := pool.Load(c.geom, c.pool.Roles())
	if e != api.OK {
		return false
	}
	left := c.writing().Left()
	for _, n := range l {
		if n < 1 || n > c.geom.Len {
			return false
		}
		if n > left {
			if !another(p) {
				return false
			}
			left = c.geom.Len
		}
		left -= n
	}
	return true
}

// another puts a pool's active zone by, if there is one, and tells whether
// another zone can be active then; it is.
func another(p *pool.Pool) bool {
	for _, zone := range p.List(api.RoleActive) {
		p.Set(zone, api.RoleSealed)
	}
	_, e := p.Take(api.RoleActive)
	return e == api.OK
}
