package pool_test

import (
	"math"
	"slices"

	"thatch/api"
)

func g(conv, seq, length, limit, cache int) api.Geom {
	return api.Geom{Conv: conv, Seq: seq, Len: length, Limit: limit, Cache: cache}
}

// small has 3 bands, and zones 2 to 7.
var small = g(2, 6, 16, 3, 2)

// wholeGeoms are geometries that may be, at the edges too.
func wholeGeoms() []api.Geom {
	return []api.Geom{small, g(2, 4, 8, 2, 1), g(2, 4, 8, 4, 2), g(2, 5, 9, 2, 3), g(2, 16, 1024, 3, 1), g(16, 128, 1024, 128, 126), g(16, 128, 1024, 2, 1), g(3, 6, 12, 3, 2), g(5, 9, 17, 3, 4)}
}

// brokenGeoms are geometries that may not be.
func brokenGeoms() []api.Geom {
	l := []api.Geom{{}, g(1, 8, 16, 3, 2), g(17, 8, 16, 3, 2), g(2, 3, 16, 2, 1), g(2, 8, 7, 3, 2), g(2, 8, 16, 1, 2), g(2, 8, 16, 3, 0), g(2, 8, 16, 3, 7), g(2, 59, 8, 2, 1)}
	for _, x := range []int{math.MinInt, -1, 0, 1 << 20, math.MaxInt} {
		l = append(l, g(x, 8, 16, 3, 2), g(2, x, 16, 3, 2), g(2, 8, x, 3, 2), g(2, 8, 16, x, 2), g(2, 8, 16, 3, x), g(x, x, x, x, x))
	}
	return l
}

// roleNames are all roles, each by a letter: free, home, active, sealed, spare, bad.
const roleNames = "fhaspb"

// rolesOf is roles by their letters.
func rolesOf(names string) []int {
	var l []int
	for _, c := range []byte(names) {
		l = append(l, slices.Index([]byte(roleNames), c))
	}
	return l
}

// noRoles are numbers that are no roles.
func noRoles() []int { return []int{math.MinInt, -1, 6, 7, 256, math.MaxInt} }

// behind are the roles, by their letters, that may follow each one.
func behind() map[int]string {
	return map[int]string{
		api.RoleFree:   "b",
		api.RoleHome:   "fb",
		api.RoleActive: "sb",
		api.RoleSealed: "fb",
		api.RoleSpare:  "hfb",
		api.RoleBad:    "",
	}
}

// plain is a pool as a list of roles.
type plain struct {
	geom  api.Geom
	roles []int
}

func newPlain(x api.Geom) plain { return plain{x, make([]int, x.Seq)} }

// many is how many zones have one of some roles.
func (p plain) many(roles ...int) int {
	n := 0
	for _, role := range p.roles {
		if slices.Contains(roles, role) {
			n++
		}
	}
	return n
}

func (p plain) bands() int { return p.geom.Seq - p.geom.Cache - 1 }

func (p plain) sound() bool {
	return p.many(api.RoleActive, api.RoleSealed) <= p.geom.Cache && p.many(api.RoleActive) <= 1 && p.many(api.RoleSpare) <= 1 && p.many(api.RoleHome) <= p.bands()
}

// take is what Take answers, and what it does.
func (p plain) take(role int) (int, api.Errno) {
	free := p.many(api.RoleFree)
	switch {
	case role == api.RoleActive:
		if p.many(api.RoleActive) > 0 || p.many(api.RoleActive, api.RoleSealed) == p.geom.Cache || free < 2 {
			return 0, api.ErrBusy
		}
	case role == api.RoleSpare:
		if p.many(api.RoleSpare) > 0 || free == 0 {
			return 0, api.ErrBusy
		}
	default:
		return 0, api.ErrRole
	}
	for i := range p.roles {
		if p.roles[i] == api.RoleFree {
			p.roles[i] = role
			return p.geom.Conv + i, api.OK
		}
	}
	panic("none is free")
}

// set is what Set answers, and what it does.
func (p plain) set(zone, role int) api.Errno {
	i := zone - p.geom.Conv
	if zone < p.geom.Conv || i >= len(p.roles) {
		return api.ErrArg
	}
	if !slices.Contains(rolesOf(behind()[p.roles[i]]), role) {
		return api.ErrRole
	}
	if role == api.RoleHome && p.many(api.RoleHome) == p.bands() {
		return api.ErrRole
	}
	p.roles[i] = role
	return api.OK
}

// list is the zones that have a role.
func (p plain) list(role int) []int {
	var l []int
	for i, r := range p.roles {
		if r == role {
			l = append(l, p.geom.Conv+i)
		}
	}
	return l
}

// numbers are numbers that look like chance, the same ones each time.
func numbers(seed uint64) func(below int) int {
	x := seed*0x9E3779B97F4A7C15 + 1
	return func(below int) int {
		x ^= x << 13
		x ^= x >> 7
		x ^= x << 17
		return int(x>>11) % below
	}
}

// allRoles goes over each list of roles that n zones may have, sound or not.
func allRoles(n int, do func([]int)) {
	roles := make([]int, n)
	for {
		do(roles)
		i := 0
		for i < n && roles[i] == api.RoleBad {
			roles[i] = api.RoleFree
			i++
		}
		if i == n {
			return
		}
		roles[i]++
	}
}
