package pool_test

import (
	"math"
	"slices"
	"testing"

	"thatch/api"
	"thatch/pool"
)

// of is a pool with these roles.
func of(t *testing.T, x api.Geom, roles []int) *pool.Pool {
	t.Helper()
	p, e := pool.Load(x, roles)
	if e != api.OK || p == nil {
		t.Fatal(x, roles, e)
	}
	return p
}

// wantPool wants that a pool is what a plain one is, asked in every way.
func wantPool(t *testing.T, what string, p *pool.Pool, want plain) {
	t.Helper()
	if got := p.Roles(); !slices.Equal(got, want.roles) {
		t.Fatalf("%s: %v, not %v", what, got, want.roles)
	}
	for i, role := range want.roles {
		if got := p.Role(want.geom.Conv + i); got != role {
			t.Errorf("%s: zone %d has %d", what, want.geom.Conv+i, got)
		}
	}
	for _, zone := range []int{math.MinInt, -1, 0, want.geom.Conv - 1, want.geom.Conv + want.geom.Seq, api.NoZone, math.MaxInt} {
		if got := p.Role(zone); got != -1 {
			t.Errorf("%s: zone %d has %d", what, zone, got)
		}
	}
	for role := range len(roleNames) {
		if l := want.list(role); p.Count(role) != len(l) || !slices.Equal(p.List(role), l) {
			t.Errorf("%s: role %d: %d, %v", what, role, p.Count(role), p.List(role))
		}
	}
	for _, role := range noRoles() {
		if p.Count(role) != 0 || len(p.List(role)) > 0 {
			t.Errorf("%s: role %d: %d, %v", what, role, p.Count(role), p.List(role))
		}
	}
	if got := want.many(api.RoleActive, api.RoleSealed); p.Cached() != got || p.Sound() != want.sound() {
		t.Errorf("%s: cached %d, sound %t", what, p.Cached(), p.Sound())
	}
}

// P14.1, P14.3: a pool of free zones.
func TestNew(t *testing.T) {
	for _, x := range wholeGeoms() {
		p, e := pool.New(x)
		if e != api.OK || p == nil {
			t.Fatal(x, e)
		}
		wantPool(t, "new", p, newPlain(x))
	}
	for _, x := range brokenGeoms() {
		if p, e := pool.New(x); p != nil || e != api.ErrGeom {
			t.Errorf("%v: %v %d", x, p, e)
		}
		for _, l := range [][]int{nil, {0, 0, 0, 0}, make([]int, 8), {9}} {
			if p, e := pool.Load(x, l); p != nil || e != api.ErrGeom {
				t.Errorf("%v: %v %d", x, p, e)
			}
		}
	}
}

// P14.1: which roles make a pool: all lists of some geometries of few zones.
func TestLoadAll(t *testing.T) {
	for _, x := range []api.Geom{g(2, 4, 8, 2, 1), g(2, 4, 8, 4, 2), g(2, 5, 9, 2, 3), g(2, 5, 10, 5, 1), g(2, 5, 11, 2, 2)} {
		sound := 0
		allRoles(x.Seq, func(roles []int) {
			want := plain{x, roles}
			p, e := pool.Load(x, roles)
			if !want.sound() {
				if p != nil || e != api.ErrRole {
					t.Errorf("%v %v: %d", x, roles, e)
				}
				return
			}
			sound++
			if e != api.OK {
				t.Fatalf("%v %v: %d", x, roles, e)
			}
			wantPool(t, "loaded", p, want)
		})
		if sound < 100 {
			t.Error(x, sound)
		}
	}
}

// P14.1: lists that are too short or too long, numbers that are no roles, and
// one too many of each kind.
func TestLoadRefused(t *testing.T) {
	refused := func(what string, roles []int) {
		t.Helper()
		if p, e := pool.Load(small, roles); p != nil || e != api.ErrRole {
			t.Errorf("%s: %v %d", what, p, e)
		}
	}
	refused("none", nil)
	refused("one too few", make([]int, 5))
	refused("one too many", make([]int, 7))
	for i := range small.Seq {
		for _, role := range noRoles() {
			roles := make([]int, small.Seq)
			roles[i] = role
			refused("no role", roles)
		}
	}
	for _, names := range []string{"aaffff", "sssfff", "assfff", "ssaffb", "ppffff", "ffffpp", "hhhhff", "bhhhhb", "hhhhpf"} {
		refused(names, rolesOf(names))
	}
	for _, names := range []string{"asffff", "ssffff", "pfffff", "fffffp", "hhhfff", "hhhasp", "sphahh", "bbbbbb", "hhhbbb"} {
		wantPool(t, names, of(t, small, rolesOf(names)), plain{small, rolesOf(names)})
	}
}

// P14.2: what may be taken of each pool, and what may be set in it, of all pools
// of some geometries of few zones.
func TestTakeSetAll(t *testing.T) {
	for _, x := range []api.Geom{g(2, 4, 8, 2, 1), g(2, 4, 8, 4, 2), g(2, 5, 9, 2, 3)} {
		allRoles(x.Seq, func(roles []int) {
			if !(plain{x, roles}).sound() {
				return
			}
			for role := -1; role <= 6; role++ {
				p, want := of(t, x, roles), plain{x, slices.Clone(roles)}
				zone, e := p.Take(role)
				if wantZone, code := want.take(role); zone != wantZone || e != code {
					t.Errorf("%v: take %d: %d %d, not %d %d", roles, role, zone, e, wantZone, code)
				}
				wantSame(t, p, want)
				for zone := x.Conv - 1; zone <= x.Conv+x.Seq; zone++ {
					p, want := of(t, x, roles), plain{x, slices.Clone(roles)}
					if e, code := p.Set(zone, role), want.set(zone, role); e != code {
						t.Errorf("%v: set %d to %d: %d, not %d", roles, zone, role, e, code)
					}
					wantSame(t, p, want)
				}
			}
		})
	}
}

// wantSame wants that a pool's roles are a plain one's, and sound.
func wantSame(t *testing.T, p *pool.Pool, want plain) {
	t.Helper()
	if !slices.Equal(p.Roles(), want.roles) || !p.Sound() || !want.sound() {
		t.Errorf("%v, not %v; sound %t", p.Roles(), want.roles, p.Sound())
	}
}

// P14.2: numbers far from any role, and from any zone; the zone ahead of the role.
func TestFar(t *testing.T) {
	p := of(t, small, rolesOf("hasfpf"))
	for _, role := range append(noRoles(), api.RoleFree, api.RoleHome, api.RoleSealed, api.RoleBad) {
		if zone, e := p.Take(role); zone != 0 || e != api.ErrRole {
			t.Errorf("take %d: %d %d", role, zone, e)
		}
	}
	for _, zone := range []int{math.MinInt, -1, 0, 1, 8, api.NoZone, math.MaxInt} {
		for _, role := range append(noRoles(), 0, 1, 2, 3, 4, 5) {
			if e := p.Set(zone, role); e != api.ErrArg {
				t.Errorf("set %d to %d: %d", zone, role, e)
			}
		}
	}
	for zone := 2; zone < 8; zone++ {
		for _, role := range noRoles() {
			if e := p.Set(zone, role); e != api.ErrRole {
				t.Errorf("set %d to %d: %d", zone, role, e)
			}
		}
	}
	wantPool(t, "refused", p, plain{small, rolesOf("hasfpf")})
}

// P14.2: who may follow whom, zone by zone of a pool with all roles.
func TestFollow(t *testing.T) {
	for role, names := range behind() {
		for next := range len(roleNames) {
			roles := rolesOf("ffffff")
			roles[2] = role
			p, want := of(t, small, roles), api.ErrRole
			if slices.Contains(rolesOf(names), next) {
				want = api.OK
				roles[2] = next
			}
			if e := p.Set(4, next); e != want {
				t.Errorf("%d behind %d: %d, not %d", next, role, e, want)
			}
			wantPool(t, "behind", p, plain{small, roles})
		}
	}
}

// P14.2: the chapter's example, and what is refused at its ends.
func TestExample(t *testing.T) {
	p, _ := pool.New(g(2, 4, 8, 2, 2))
	take := func(role, want int, code api.Errno) {
		t.Helper()
		if zone, e := p.Take(role); zone != want || e != code {
			t.Errorf("take %d: %d %d, not %d %d", role, zone, e, want, code)
		}
	}
	set := func(zone, role int, code api.Errno) {
		t.Helper()
		if e := p.Set(zone, role); e != code {
			t.Errorf("set %d to %d: %d, not %d", zone, role, e, code)
		}
	}
	take(api.RoleActive, 2, api.OK)
	take(api.RoleActive, 0, api.ErrBusy)
	set(2, api.RoleSealed, api.OK)
	take(api.RoleActive, 3, api.OK)
	take(api.RoleSpare, 4, api.OK)
	take(api.RoleSpare, 0, api.ErrBusy)
	set(3, api.RoleSealed, api.OK)
	take(api.RoleActive, 0, api.ErrBusy)
	// The one band has its home; a second one there may not be.
	set(4, api.RoleHome, api.OK)
	take(api.RoleSpare, 5, api.OK)
	set(5, api.RoleHome, api.ErrRole)
	// A zone of the cache is free, but one alone does not do for the next.
	set(2, api.RoleFree, api.OK)
	take(api.RoleActive, 0, api.ErrBusy)
	set(4, api.RoleFree, api.OK)
	take(api.RoleActive, 2, api.OK)
	set(5, api.RoleHome, api.OK)
	take(api.RoleSpare, 4, api.OK)
	set(4, api.RoleBad, api.OK)
	take(api.RoleSpare, 0, api.ErrBusy)
}

// P14.4: a pool stays sound; as long as no zone is bad there is a free or a spare one.
func TestSteps(t *testing.T) {
	for i, x := range wholeGeoms() {
		for seed := range 12 {
			number := numbers(uint64(100*i + seed))
			roles := 6
			if seed%3 > 0 {
				roles = api.RoleBad
			}
			p, e := pool.New(x)
			if e != api.OK {
				t.Fatal(x, e)
			}
			want := newPlain(x)
			for range 300 {
				step(t, p, want, number, roles)
				wantSame(t, p, want)
				if roles == api.RoleBad && p.Count(api.RoleFree)+p.Count(api.RoleSpare) == 0 {
					t.Fatalf("%v: %v", x, p.Roles())
				}
			}
			wantPool(t, "behind many steps", p, want)
			wantPool(t, "and loaded", of(t, x, p.Roles()), want)
		}
	}
}

// step does something with a pool, and a plain one, of the first of the roles.
func step(t *testing.T, p *pool.Pool, want plain, number func(int) int, roles int) {
	t.Helper()
	if number(3) == 0 {
		role := []int{api.RoleActive, api.RoleSpare}[number(2)]
		zone, e := p.Take(role)
		if wantZone, code := want.take(role); zone != wantZone || e != code {
			t.Fatalf("take %d: %d %d, not %d %d", role, zone, e, wantZone, code)
		}
		return
	}
	zone, role := want.geom.Conv+number(want.geom.Seq), number(roles)
	if e, code := p.Set(zone, role), want.set(zone, role); e != code {
		t.Fatalf("set %d to %d: %d, not %d", zone, role, e, code)
	}
}

// P14.3: a nil Pool, whatever it is asked.
func TestNil(t *testing.T) {
	var p *pool.Pool
	for _, role := range append(noRoles(), 0, 1, 2, 3, 4, 5) {
		if zone, e := p.Take(role); zone != 0 || e != api.ErrClosed {
			t.Errorf("take %d: %d %d", role, zone, e)
		}
		for _, zone := range []int{-1, 0, 2, 3, api.NoZone} {
			if e := p.Set(zone, role); e != api.ErrClosed {
				t.Errorf("set %d to %d: %d", zone, role, e)
			}
			if p.Role(zone) != -1 {
				t.Error("role", p.Role(zone))
			}
		}
		if p.Count(role) != 0 || len(p.List(role)) > 0 {
			t.Error("list", p.List(role))
		}
	}
	if len(p.Roles()) > 0 || p.Cached() != 0 || p.Sound() {
		t.Error("roles", p.Roles(), p.Cached(), p.Sound())
	}
}

// wipe changes a list, and the room behind its end.
func wipe(l []int) {
	l = l[:cap(l)]
	for i := range l {
		l[i] = api.RoleHome
	}
}

// R3: what is handed in stays as it is and is not kept; answers are new, and two
// pools share nothing.
func TestNothingShared(t *testing.T) {
	room := append(rolesOf("hasffp"), 7, 8, 9)
	was := slices.Clone(room)
	p, other := of(t, small, room[:6]), of(t, small, room[:6])
	if zone, e := p.Take(api.RoleSpare); zone != 0 || e != api.ErrBusy {
		t.Error("spare", zone, e)
	}
	if p.Set(3, api.RoleSealed) != api.OK {
		t.Error("refused")
	}
	if !slices.Equal(room, was) {
		t.Error("the list is changed", room)
	}
	wipe(room)
	for range 2 {
		wipe(p.Roles())
		wipe(p.List(api.RoleFree))
		wipe(p.List(api.RoleSealed))
		wantPool(t, "wiped", p, plain{small, rolesOf("hssffp")})
	}
	wantPool(t, "the other one", other, plain{small, rolesOf("hasffp")})
}
