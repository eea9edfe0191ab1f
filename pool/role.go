package pool

import (
	"iter"
	"slices"

	"thatch/api"
	"thatch/geom"
)

// isNone tells whether a number is no role.
func isNone(role int) bool {
	return role < api.RoleFree || role > api.RoleBad
}

// follows tells whether a zone of one role may get another one by Set: free
// zones, and what is taken of them, are Take's.
func follows(was, role int) bool {
	switch was {
	case api.RoleSpare:
		if role == api.RoleHome {
			return true
		}
		fallthrough
	case api.RoleSealed, api.RoleHome:
		if role == api.RoleFree {
			return true
		}
		fallthrough
	case api.RoleFree:
		return role == api.RoleBad
	case api.RoleActive:
		return role == api.RoleSealed || role == api.RoleBad
	}
	return false
}

// having goes over the zones that have a role.
func (p *Pool) having(role int) iter.Seq[int] {
	return func(yield func(int) bool) {
		for i, r := range p.roles {
			if r == role && !yield(p.geom.Conv+i) {
				return
			}
		}
	}
}

// Role is what a zone is for; -1, if there is no such sequential zone.
func (p *Pool) Role(zone int) int {
	if p == nil || !geom.IsSeq(p.geom, zone) {
		return -1
	}
	return p.roles[zone-p.geom.Conv]
}

// Roles is what all zones are for, in their order.
func (p *Pool) Roles() []int {
	if p == nil {
		return nil
	}
	return slices.Clone(p.roles)
}

// Count is how many zones have a role.
func (p *Pool) Count(role int) int {
	return len(p.List(role))
}

// List is which zones have a role, rising.
func (p *Pool) List(role int) []int {
	if p == nil {
		return nil
	}
	return slices.Collect(p.having(role))
}

// Cached is how many zones are the cache's.
func (p *Pool) Cached() int {
	return p.Count(api.RoleActive) + p.Count(api.RoleSealed)
}

// Sound tells whether no more zones are of a kind than may be.
func (p *Pool) Sound() bool {
	if p == nil {
		return false
	}
	return p.Cached() <= p.geom.Cache &&
		p.Count(api.RoleActive) <= 1 &&
		p.Count(api.RoleSpare) <= 1 &&
		p.Count(api.RoleHome) <= p.bands
}
